/-
  The walk of XofNil: a nil stream, and one that no call made, tell ErrZero and nothing else.
-/
import Derived.Test.YtplpplbmajiclabGreatXNew
namespace Go.Proofs.YtplpplbmajiclabGreat
open Go.RowKit
set_option linter.unusedVariables false
set_option linter.unusedSimpArgs false
namespace LW
open Words
theorem neq_fn (fn : Fn) (x y : Array Value) (w : World) : (binOp .neq 31 (.func fn x y) .nilFunc).run Tryz.prog w = .ok (.bool true) w := by kernel_rfl
theorem neq_nil (w : World) : (binOp .neq 31 .nilFunc .nilFunc).run Tryz.prog w = .ok (.bool false) w := by kernel_rfl
set_option maxRecDepth 100000 in
theorem made0 (w : World) : Calls Tryz.prog 13 #[.pointer none] w fun e w' => e = .returned (.bool false) ∧ w = w' := by
  go_enter Tryz.func13, Tryz.ntmps13
  go_wp2
  go_ret
  exact ⟨rfl, rfl⟩
set_option maxRecDepth 100000 in
theorem madeZ (b : Nat) (w : World) (h : w.cell? ⟨b, 7, none⟩ = some .nilFunc) : Calls Tryz.prog 13 #[.pointer (some ⟨b, 0, none⟩)] w fun e w' => e = .returned (.bool false) ∧ w = w' := by
  have hq := fun W : World => neq_nil W
  go_enter Tryz.func13, Tryz.ntmps13
  go_wp2
  go_ret
  exact ⟨rfl, rfl⟩
set_option maxRecDepth 100000 in
theorem madeF (b : Nat) (fn : Fn) (x y : Array Value) (w : World) (h : w.cell? ⟨b, 7, none⟩ = some (.func fn x y)) : Calls Tryz.prog 13 #[.pointer (some ⟨b, 0, none⟩)] w fun e w' => e = .returned (.bool true) ∧ w = w' := by
  have hq := fun W : World => neq_fn fn x y W
  go_enter Tryz.func13, Tryz.ntmps13
  go_wp2
  go_ret
  exact ⟨rfl, rfl⟩
set_option maxRecDepth 100000 in
theorem leftF (b : Nat) (fn : Fn) (x y : Array Value) (w : World) (h : w.cell? ⟨b, 7, none⟩ = some (.func fn x y)) (h3 : w.cell? ⟨b, 3, none⟩ = some (.int .u64 274877906944)) (h9 : w.cell? ⟨b, 9, none⟩ = some (.int .u64 0)) :
    Calls Tryz.prog 8 #[.pointer (some ⟨b, 0, none⟩)] w fun e w' => e = .returned (.int .u64 274877906944) ∧ Below w.heap.size w w' := by
  have H := TW.hide (fun W h => madeF b fn x y W h)
  have HH := TW.hide h
  clear h
  go_enter Tryz.func8, Tryz.ntmps8
  go_wp2_with fail
  refine (H.out _ HH.out).mono ?_
  rintro e w' ⟨rfl, rfl⟩
  go_wp2
  go_quiet (fail)
  go_wp2
  go_ret
  exact ⟨rfl, below_drewN (Below.refl _ _) _⟩
set_option maxRecDepth 100000 in
theorem awakeOk (iv : List Int) (w : World) (hiv : iv.length = 8) (ti : w.heap[2]? = some (.cells (K .u64 iv) 102 (0, 0))) :
    Calls Tryz.prog 4 #[] w fun e w' => e = .returned (.bool true) ∧ Below w.heap.size w w' := by
  have H := TW.hide (newU iv w hiv ti)
  have HL := TW.hide (fun b fn x y W h h3 h9 => leftF b fn x y W h h3 h9)
  clear hiv ti
  go_enter Tryz.func4, Tryz.ntmps4
  go_wp2_with fail
  refine H.out.mono ?_
  rintro e w1 ⟨g, fn, x, y, rfl, h7, h3, h9, hb⟩
  have H7 := TW.hide h7
  have H3 := TW.hide h3
  have H9 := TW.hide h9
  have HB := TW.hide hb
  clear h7 h3 h9 hb
  go_wp2_with fail
  refine (HL.out _ _ _ _ _ H7.out H3.out H9.out).mono ?_
  rintro e w2 ⟨rfl, hb⟩
  have HB2 : Hid (Below w.heap.size w w2) := below_row HB.out hb HB.out.size
  clear hb
  go_wp2
  go_ret
  exact ⟨rfl, HB2.out⟩
set_option maxRecDepth 100000 in
theorem read0 (p : Option Addr) (x0 : Value) (w : World) (h : Calls Tryz.prog 13 #[.pointer p] w fun e w' => e = .returned (.bool false) ∧ w = w') :
    Calls Tryz.prog 5 #[.pointer p, x0] w fun e w' => e = .returned (.tuple #[.slice none 0 0, .int .i64 7]) ∧ w = w' := by
  have H := TW.hide h
  clear h
  go_enter Tryz.func5, Tryz.ntmps5
  go_wp2_with fail
  refine H.out.mono ?_
  rintro e w' ⟨rfl, rfl⟩
  go_wp2
  go_ret2
  exact ⟨rfl, rfl⟩
set_option maxRecDepth 100000 in
theorem skip0 (p : Option Addr) (x0 : Value) (w : World) (h : Calls Tryz.prog 13 #[.pointer p] w fun e w' => e = .returned (.bool false) ∧ w = w') :
    Calls Tryz.prog 6 #[.pointer p, x0] w fun e w' => e = .returned (.tuple #[.int .u64 0, .int .i64 7]) ∧ w = w' := by
  have H := TW.hide h
  clear h
  go_enter Tryz.func6, Tryz.ntmps6
  go_wp2_with fail
  refine H.out.mono ?_
  rintro e w' ⟨rfl, rfl⟩
  go_wp2
  go_ret2
  exact ⟨rfl, rfl⟩
set_option maxRecDepth 100000 in
theorem at0 (p : Option Addr) (w : World) (h : Calls Tryz.prog 13 #[.pointer p] w fun e w' => e = .returned (.bool false) ∧ w = w') :
    Calls Tryz.prog 7 #[.pointer p] w fun e w' => e = .returned (.int .u64 0) ∧ w = w' := by
  have H := TW.hide h
  clear h
  go_enter Tryz.func7, Tryz.ntmps7
  go_wp2_with fail
  refine H.out.mono ?_
  rintro e w' ⟨rfl, rfl⟩
  go_wp2
  go_ret
  exact ⟨rfl, rfl⟩
set_option maxRecDepth 100000 in
theorem left0 (p : Option Addr) (w : World) (h : Calls Tryz.prog 13 #[.pointer p] w fun e w' => e = .returned (.bool false) ∧ w = w') :
    Calls Tryz.prog 8 #[.pointer p] w fun e w' => e = .returned (.int .u64 0) ∧ w = w' := by
  have H := TW.hide h
  clear h
  go_enter Tryz.func8, Tryz.ntmps8
  go_wp2_with fail
  refine H.out.mono ?_
  rintro e w' ⟨rfl, rfl⟩
  go_wp2
  go_ret
  exact ⟨rfl, rfl⟩
set_option maxRecDepth 100000 in
theorem copy0 (p : Option Addr) (w : World) (h : Calls Tryz.prog 13 #[.pointer p] w fun e w' => e = .returned (.bool false) ∧ w = w') :
    Calls Tryz.prog 9 #[.pointer p] w fun e w' => e = .returned (.pointer none) ∧ w = w' := by
  have H := TW.hide h
  clear h
  go_enter Tryz.func9, Tryz.ntmps9
  go_wp2_with fail
  refine H.out.mono ?_
  rintro e w' ⟨rfl, rfl⟩
  go_wp2
  go_ret
  exact ⟨rfl, rfl⟩
set_option maxRecDepth 100000 in
theorem write0 (p : Option Addr) (x0 : Value) (w : World) (h : Calls Tryz.prog 13 #[.pointer p] w fun e w' => e = .returned (.bool false) ∧ w = w') :
    Calls Tryz.prog 10 #[.pointer p, x0] w fun e w' => e = .returned (.int .i64 7) ∧ w = w' := by
  have H := TW.hide h
  clear h
  go_enter Tryz.func10, Tryz.ntmps10
  go_wp2_with fail
  refine H.out.mono ?_
  rintro e w' ⟨rfl, rfl⟩
  go_wp2
  go_ret
  exact ⟨rfl, rfl⟩
set_option maxRecDepth 100000 in
theorem reset0 (p : Option Addr) (w : World) (h : Calls Tryz.prog 13 #[.pointer p] w fun e w' => e = .returned (.bool false) ∧ w = w') :
    Calls Tryz.prog 11 #[.pointer p] w fun e w' => e = .returned (.int .i64 7) ∧ w = w' := by
  have H := TW.hide h
  clear h
  go_enter Tryz.func11, Tryz.ntmps11
  go_wp2_with fail
  refine H.out.mono ?_
  rintro e w' ⟨rfl, rfl⟩
  go_wp2
  go_ret
  exact ⟨rfl, rfl⟩
end LW
end Go.Proofs.YtplpplbmajiclabGreat
