/-
  What the calls Turn32 (the program's), RotateLeft32 (the library's), Rest and turn (the document's) give, for every word.
-/
import Derived.Test.YtecepllidmkmhaaDoorChecked
import Derived.Test.YtecepllidmkmhaaDoorTurn
import Derived.WalkKit
import Derived.WalkLawsBesides
import Derived.BigQuiet
import Derived.Deep.QuietTactic
namespace Go.Proofs.YtecepllidmkmhaaDoor
open Go.RowKit
namespace TW
open Turn

theorem hide {p : Prop} (h : p) : Hid p := h
theorem ret_int {k : IntKind} {a b : Int} (h : a = b) : Ending.returned (.int k a) = .returned (.int k b) := by rw [h]
theorem rot32 (a k : Int) (w : World) (h0 : 0 ≤ a) (h1 : a < 4294967296) :
    Calls Tryd.prog 58 #[.int .u32 a, .int .i64 k] w fun e w' => e = .returned (.int .u32 (T32 a (-k))) ∧ w = w' := by
  obtain ⟨s, hs⟩ : ∃ s, bits BinOp.and IntKind.u64 (IntKind.u64.wrap k) 31 = s := ⟨_, rfl⟩
  have hk := and31u k
  rw [hs] at hk
  have h2 : 0 ≤ s := by omega
  have h3 : s < 32 := by omega
  have HF : Hid (bits .or .u32 (a * 2 ^ s.toNat % 4294967296) (a / 2 ^ (32 - s).toNat) = T32 a (-k)) := T32_lib a (-k) s h0 h1 (by omega)
  clear hk
  go_enter Tryd.func58, Tryd.ntmps58
  go_wp2
  go_ret
  exact ⟨ret_int HF.out, rfl⟩
theorem turn32 (a n : Int) (w : World) (h0 : 0 ≤ a) (h1 : a < 4294967296) :
    Calls Tryd.prog 57 #[.int .u32 a, .int .i64 n] w fun e w' => e = .returned (.int .u32 (T32 a n)) ∧ w = w' := by
  obtain ⟨k, hk⟩ : ∃ k, bits BinOp.and IntKind.i64 n 31 = k := ⟨_, rfl⟩
  have hn := and31 n
  rw [hk] at hn
  have h2 : 0 ≤ k := by omega
  have h3 : k < 32 := by omega
  have HF : Hid (T32 a k = T32 a n) := by
    show T32 a k = T32 a n
    unfold T32
    rw [show k % 32 = n % 32 by omega]
  clear hn
  go_enter Tryd.func57, Tryd.ntmps57
  go_wp2_with (go_at_call 58; refine (rot32 _ _ _ h0 h1).mono ?_; rintro e w' ⟨rfl, rfl⟩)
  go_ret
  exact ⟨ret_int HF.out, rfl⟩
theorem rest (n m : Int) (w : World) (hm : 0 < m) (hm2 : m < 100) :
    Calls Tryd.prog 54 #[.int .i64 n, .int .i64 m] w fun e w' => e = .returned (.int .i64 (n % m)) ∧ w = w' := by
  have ht : n.tmod m = n % m ∨ n.tmod m = n % m - m ∧ 0 < n % m := by
    rw [Int.tmod_eq_emod]
    have := Int.emod_nonneg n (show m ≠ 0 by omega)
    have h3 : (m.natAbs : Int) = m := by omega
    split
    · left; omega
    · rename_i h
      right
      refine ⟨by omega, ?_⟩
      have : n % m ≠ 0 := fun h0 => h (.inr (Int.dvd_of_emod_eq_zero h0))
      omega
  have hl := Int.emod_nonneg n (show m ≠ 0 by omega)
  have hu := Int.emod_lt_of_pos n hm
  generalize hR : n % m = r at *
  clear hR
  go_enter Tryd.func54, Tryd.ntmps54
  go_wp2
  · go_ret
    exact ⟨ret_int (by omega), rfl⟩
  · go_ret
    exact ⟨ret_int (by omega), rfl⟩
theorem ref32 (a r : Int) (w : World) (h0 : 0 ≤ a) (h1 : a < 4294967296) (hp : 0 < r) (hu : r < 32) :
    Calls Tryd.prog 52 #[.int .u32 a, .int .i64 r] w fun e w' => e = .returned (.int .u32 (T32 a r)) ∧ w = w' := by
  have hf := T32_ref a r r h0 h1 (by omega) hp
  generalize hT : T32 a r = t at *
  clear hT
  have HF := hide hf
  clear hf
  have e1 : IntKind.u64.wrap r = r := by rw [IntKind.wrap_u64]; omega
  have e2 : IntKind.u64.wrap (32 - r) = 32 - r := by rw [IntKind.wrap_u64]; omega
  have e3 : IntKind.i64.wrap (32 - r) = 32 - r := by rw [IntKind.wrap_i64]; omega
  go_enter Tryd.func52, Tryd.ntmps52
  go_wp2
  go_ret
  exact ⟨ret_int HF.out, rfl⟩
end TW
end Go.Proofs.YtecepllidmkmhaaDoor
