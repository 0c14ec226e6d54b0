/-
  What the calls Turn32, Turn64 (the program's), RotateLeft32, RotateLeft64 (the library's) and Rest, Turn32, Turn64 (the document's answer) give, for every word and every number.
-/
import Derived.Test.YtkgemkfajkcgcaaDoorBase
import Derived.Test.YtkgemkfajkcgcaaDoorTurn
import Derived.WalkKit
import Derived.WalkLawsBesides
import Derived.BigQuiet
import Derived.Deep.QuietTactic
namespace Go.Proofs.YtkgemkfajkcgcaaDoor
open Go.RowKit
namespace TW
open Turn

theorem rot64 (a k : Int) (w : World) (h0 : 0 ≤ a) (h1 : a < 18446744073709551616) :
    Calls Tryd.prog 35 #[.int .u64 a, .int .i64 k] w fun e w' => e = .returned (.int .u64 (T64 a (-k))) ∧ w = w' := by
  obtain ⟨s, hs⟩ : ∃ s, bits BinOp.and IntKind.u64 (IntKind.u64.wrap k) 63 = s := ⟨_, rfl⟩
  have hk := and63u k
  rw [hs] at hk
  have h2 : 0 ≤ s := by omega
  have h3 : s < 64 := by omega
  have HF : Hid (bits .or .u64 (IntKind.u64.wrap (a * 2 ^ s.toNat)) (a / 2 ^ (64 - s).toNat) = T64 a (-k)) := T64_lib a (-k) s h0 h1 (by omega)
  clear hk
  go_enter Tryd.func35, Tryd.ntmps35
  go_wp2
  go_ret
  exact ⟨ret_int HF.out, rfl⟩

theorem turn64 (a n : Int) (w : World) (h0 : 0 ≤ a) (h1 : a < 18446744073709551616) :
    Calls Tryd.prog 21 #[.int .u64 a, .int .i64 n] w fun e w' => e = .returned (.int .u64 (T64 a n)) ∧ w = w' := by
  obtain ⟨k, hk⟩ : ∃ k, bits BinOp.and IntKind.i64 n 63 = k := ⟨_, rfl⟩
  have hn := and63 n
  rw [hk] at hn
  have h2 : 0 ≤ k := by omega
  have h3 : k < 64 := by omega
  have HF : Hid (T64 a k = T64 a n) := by
    show T64 a k = T64 a n
    unfold T64
    rw [show k % 64 = n % 64 by omega]
  clear hn
  go_enter Tryd.func21, Tryd.ntmps21
  go_wp2_with (go_at_call 35; refine (rot64 _ _ _ h0 h1).mono ?_; rintro e w' ⟨rfl, rfl⟩)
  go_ret
  exact ⟨ret_int HF.out, rfl⟩

theorem rest (n m : Int) (w : World) (hm : 0 < m) (hm2 : m < 100) :
    Calls Tryd.prog 36 #[.int .i64 n, .int .i64 m] w fun e w' => e = .returned (.int .i64 (n % m)) ∧ w = w' := by
  have ht : n.tmod m = n % m ∨ n.tmod m = n % m - m ∧ 0 < n % m := by
    rw [Int.tmod_eq_emod]
    have := Int.emod_nonneg n (show m ≠ 0 by omega)
    have h3 : (m.natAbs : Int) = m := by omega
    split
    · left; omega
    · rename_i h
      right
      refine ⟨by omega, ?_⟩
      have : n % m ≠ 0 := fun h0 => h (.inr (Int.dvd_of_emod_eq_zero h0))
      omega
  have hl := Int.emod_nonneg n (show m ≠ 0 by omega)
  have hu := Int.emod_lt_of_pos n hm
  generalize hR : n % m = r at *
  clear hR
  go_enter Tryd.func36, Tryd.ntmps36
  go_wp2
  · go_ret
    exact ⟨ret_int (by omega), rfl⟩
  · go_ret
    exact ⟨ret_int (by omega), rfl⟩

theorem ref64 (a n : Int) (w : World) (h0 : 0 ≤ a) (h1 : a < 18446744073709551616) :
    Calls Tryd.prog 23 #[.int .u64 a, .int .i64 n] w fun e w' => e = .returned (.int .u64 (T64 a n)) ∧ ∃ q, w' = w.drewN q := by
  have hr := fun W => rest n 64 W (by omega) (by omega)
  have hl := Int.emod_nonneg n (show (64 : Int) ≠ 0 by omega)
  have hu := Int.emod_lt_of_pos n (show (0 : Int) < 64 by omega)
  have hz := T64_zero a n h0 h1
  have hf := T64_ref a n (n % 64) h0 h1 rfl
  generalize hT : T64 a n = t at *
  generalize hR : n % 64 = r at *
  clear hR hT
  have HR := hide hr
  have HZ := hide hz
  have HF := hide hf
  clear hr hz hf
  by_cases e0 : r = 0
  · have eb : (r == 0) = true := by simp [e0]
    go_enter Tryd.func23, Tryd.ntmps23
    go_wp2_with (go_at_call 36; refine (HR.out _).mono ?_; rintro e w' ⟨rfl, rfl⟩)
    go_ret
    exact ⟨ret_int (HZ.out e0).symm, 0, rfl⟩
  · have eb : (r == 0) = false := by simp [e0]
    have hp : 0 < r := by omega
    go_enter Tryd.func23, Tryd.ntmps23
    go_wp2_with (go_at_call 36; refine (HR.out _).mono ?_; rintro e w' ⟨rfl, rfl⟩)
    go_quiet (fail)
    go_wp2
    go_ret
    exact ⟨ret_int (HF.out hp), _, rfl⟩
end TW
end Go.Proofs.YtkgemkfajkcgcaaDoor
