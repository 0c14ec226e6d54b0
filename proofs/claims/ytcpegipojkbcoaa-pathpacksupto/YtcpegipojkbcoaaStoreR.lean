/-
  What Store of the document gives, for every word: a row of the call's own.
-/
import Derived.Test.YtcpegipojkbcoaaBase
import Derived.Maps.AppendAt
namespace Go.Proofs.Ytcpegipojkbcoaa
open Go.RowKit
set_option linter.unusedVariables false
namespace LW
open Words
set_option maxHeartbeats 400000 in
theorem rstore (v : Int) (n : Nat) (w : World) (hv0 : 0 ≤ v) (hv1 : v < 18446744073709551616) (hn : n ≤ 8) :
    Calls Try.prog 22 #[.int .u64 v, .int .i64 n] w fun e w' =>
      ∃ x, e = .returned x ∧ w'.ownsRow w.heap.size 5 1 x n (vs (un v n)) ∧ Below w.heap.size w w' := by
  obtain ⟨i0, hi, hz0, hz1, hz2⟩ := info_parts info5
  go_enter Try.func22, Try.ntmps22
  go_wp2
  go_loopw [0, 5, 6] (fun x b i wr => ∃ k : Nat, k ≤ n ∧ i = .int .i64 k ∧ x = .int .u64 (v / 256 ^ k) ∧ wr.ownsRow w.heap.size 5 1 b k (vs (un v k)) ∧ Below w.heap.size w wr) (fun _ _ i _ => n - (intOf i).toNat)
  case atStart => exact ⟨0, Nat.zero_le _, rfl, by simp, World.ownsRow_nil _ _ _ _, Below.refl _ _⟩
  case round =>
    obtain ⟨k, hk, rfl, rfl, hown, hbel⟩ := hrel
    by_cases hlt : k < n
    · have hx0 : 0 ≤ v / 256 ^ k := Int.ediv_nonneg hv0 (Int.le_of_lt (Int.pow_pos (by decide)))
      have hx1 : v / 256 ^ k < 18446744073709551616 := Int.lt_of_le_of_lt (Int.ediv_le_self _ hv0) hv1
      have hx2 : v / 256 ^ (k + 1) = v / 256 ^ k / 256 := by rw [Int.pow_succ, Int.ediv_ediv_of_nonneg (Int.le_of_lt (Int.pow_pos (by decide)))]
      have hs := un_snoc v k
      generalize v / 256 ^ k = x at *
      have HX := TW.hide hx2
      have HS := TW.hide hs
      have HB := TW.hide hbel
      clear hx2 hs hbel
      go_wp2_with (at_builtin; refine wpList_append_own _ rfl _ _ 24 rfl w.heap.size 5 i0 (.int .u8 0) 1 1 Try.underlying24 hi hz0 hz1 hz2 rfl (by decide) _ _ _ rfl (hown.alloc _) ⟨wr.heap.size, 0, none⟩ 1 1 [.int .u8 (x % 256)] rfl rfl ?c1 ?c2 ?c3 ?c4 ?c5 ?_)
      case c1 => exact one_new _ _
      case c2 => intro u hu; simp at hu; subst hu; rfl
      case c3 => unfold maxLen; omega
      case c4 => omega
      case c5 => have := HB.out.size; simp; omega
      intro v' w2 hown' hgrow' _
      have hbel2 : Below w.heap.size w w2 := (HB.out.alloc HB.out.size _).grown hgrow' (by have := HB.out.size; simp; omega) (own_block hown)
      have H1 := TW.hide hown'
      have H2 := TW.hide hbel2
      clear hown hown' hgrow' hbel2
      go_wp2
      go_roundw
      case rel => exact ⟨k + 1, by omega, by go_num, by rw [HX.out], by rw [HS.out, vs_append]; exact H1.out, H2.out⟩
      case measure => simp [intOf]; omega
    · go_wp2
      go_ret
      obtain rfl : k = n := by omega
      exact ⟨_, rfl, hown, hbel⟩
end LW
end Go.Proofs.Ytcpegipojkbcoaa
