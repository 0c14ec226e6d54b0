/-
  What the calls Turn32, Turn64 (the program's), RotateLeft32, RotateLeft64 (the library's) and Rest, Turn32, Turn64 (the document's answer) give, for every word and every number.
-/
import Derived.Test.YtbjelenmnlmodabChecked
import Derived.Test.YtbjelenmnlmodabTurn
import Derived.WalkKit
import Derived.WalkLawsBesides
import Derived.BigQuiet
import Derived.Deep.QuietTactic
namespace Go.Proofs.Ytbjelenmnlmodab
open Go.RowKit
namespace TW
open Turn

theorem hide {p : Prop} (h : p) : Hid p := h
theorem ret_int {k : IntKind} {a b : Int} (h : a = b) : Ending.returned (.int k a) = .returned (.int k b) := by rw [h]

theorem rot64 (a k : Int) (w : World) (h0 : 0 ≤ a) (h1 : a < 18446744073709551616) :
    Calls Try.prog 32 #[.int .u64 a, .int .i64 k] w fun e w' => e = .returned (.int .u64 (T64 a (-k))) ∧ w = w' := by
  obtain ⟨s, hs⟩ : ∃ s, bits BinOp.and IntKind.u64 (IntKind.u64.wrap k) 63 = s := ⟨_, rfl⟩
  have hk := and63u k
  rw [hs] at hk
  have h2 : 0 ≤ s := by omega
  have h3 : s < 64 := by omega
  have HF : Hid (bits .or .u64 (IntKind.u64.wrap (a * 2 ^ s.toNat)) (a / 2 ^ (64 - s).toNat) = T64 a (-k)) := T64_lib a (-k) s h0 h1 (by omega)
  clear hk
  go_enter Try.func32, Try.ntmps32
  go_wp2
  go_ret
  exact ⟨ret_int HF.out, rfl⟩

theorem turn64 (a n : Int) (w : World) (h0 : 0 ≤ a) (h1 : a < 18446744073709551616) :
    Calls Try.prog 25 #[.int .u64 a, .int .i64 n] w fun e w' => e = .returned (.int .u64 (T64 a n)) ∧ w = w' := by
  obtain ⟨k, hk⟩ : ∃ k, bits BinOp.and IntKind.i64 n 63 = k := ⟨_, rfl⟩
  have hn := and63 n
  rw [hk] at hn
  have h2 : 0 ≤ k := by omega
  have h3 : k < 64 := by omega
  have HF : Hid (T64 a k = T64 a n) := by
    show T64 a k = T64 a n
    unfold T64
    rw [show k % 64 = n % 64 by omega]
  clear hn
  go_enter Try.func25, Try.ntmps25
  go_wp2_with (go_at_call 32; refine (rot64 _ _ _ h0 h1).mono ?_; rintro e w' ⟨rfl, rfl⟩)
  go_ret
  exact ⟨ret_int HF.out, rfl⟩

end TW
end Go.Proofs.Ytbjelenmnlmodab
