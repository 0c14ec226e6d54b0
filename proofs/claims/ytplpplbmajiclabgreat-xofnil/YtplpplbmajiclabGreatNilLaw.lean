/-
  The walk of the law XofNil.
-/
import Derived.Test.YtplpplbmajiclabGreatXNil
namespace Go.Proofs.YtplpplbmajiclabGreat
open Go.RowKit
set_option linter.unusedVariables false
set_option linter.unusedSimpArgs false
namespace LW
open Words
theorem zero34_7 : Tryz.zeroCells34[7]? = some .nilFunc := by kernel_rfl
set_option maxRecDepth 100000 in
set_option maxHeartbeats 2000000 in
theorem nilLaw (iv : List Int) (d : Value) (n by_ : Int) (w : World) (hiv : iv.length = 8) (ti : w.heap[2]? = some (.cells (K .u64 iv) 102 (0, 0))) :
    Calls Tryz.prog 3 #[d, .int .i64 n, .int .u64 by_] w fun e w' => e = .returned (.bool true) ∧ Below w.heap.size w w' := by
  have HA := TW.hide (awakeOk iv w hiv ti)
  clear hiv ti
  go_enter Tryz.func3, Tryz.ntmps3
  refine wp_seq_k fun KK hK => ?_
  have HK := TW.hide hK
  clear hK
  go_wp2
  refine HK.out _ _ ?_
  clear HK KK
  refine wp_seq_k fun KK hK => ?_
  have HK := TW.hide hK
  clear hK
  go_wp2_with fail
  refine HA.out.mono ?_
  rintro e w1 ⟨rfl, hb⟩
  have B1 := TW.hide hb
  clear hb
  go_wp2_with fail
  refine HK.out _ _ ?_
  clear HK KK
  refine wp_seq_k fun KK hK => ?_
  have HK := TW.hide hK
  clear hK
  go_wp2_with fail
  refine HK.out _ _ ?_
  clear HK KK
  have n0 : ((w1.alloc (.cells Tryz.zeroCells34 34)).alloc (.cells #[.pointer none, .pointer (some ⟨w1.heap.size, 0, none⟩)] 25)).heap[w1.heap.size]? = some (.cells Tryz.zeroCells34 34 (0, 0)) := blk_alloc (heap_alloc_new w1 _)
  have n1 := heap_alloc_new (w1.alloc (.cells Tryz.zeroCells34 34)) (.cells #[.pointer none, .pointer (some ⟨w1.heap.size, 0, none⟩)] 25)
  rw [show (w1.alloc (.cells Tryz.zeroCells34 34)).heap.size = w1.heap.size + 1 by simp] at n1
  have hs := B1.out.size
  have B2 : Hid (Below w.heap.size w ((w1.alloc (.cells Tryz.zeroCells34 34)).alloc (.cells #[.pointer none, .pointer (some ⟨w1.heap.size, 0, none⟩)] 25))) := (B1.out.alloc hs _).alloc (by simp; omega) _
  have c0 := blk_cell n1 (i := 0) (v := .pointer none) rfl
  have c1 := blk_cell n1 (i := 1) (v := .pointer (some ⟨w1.heap.size, 0, none⟩)) rfl
  have MZ := TW.hide (madeZ w1.heap.size _ (blk_cell n0 zero34_7))
  clear n0 n1 HA hs B1
  generalize ((w1.alloc (.cells Tryz.zeroCells34 34)).alloc (.cells #[.pointer none, .pointer (some ⟨w1.heap.size, 0, none⟩)] 25)) = W at *
  generalize w1.heap.size = g at *
  have HP : Hid (∀ k : Nat, k < 2 → ∃ p : Option Addr, W.cell? ⟨g + 1, k, none⟩ = some (.pointer p) ∧ Calls Tryz.prog 13 #[.pointer p] W fun e w' => e = .returned (.bool false) ∧ W = w') := fun k hk => by
    match k, hk with
    | 0, _ => exact ⟨none, c0, made0 W⟩
    | 1, _ => exact ⟨_, c1, MZ.out⟩
  clear c0 c1 MZ
  go_wp2_with fail
  go_loop [21] (fun i => ∃ k : Nat, k ≤ 2 ∧ i = .int .i64 k) (fun i => 2 - (intOf i).toNat)
  case atStart => exact ⟨0, by omega, rfl⟩
  case round =>
    obtain ⟨k, hk, rfl⟩ := hrel
    by_cases hlt : k < 2
    · obtain ⟨p, hc, hm⟩ := HP.out k hlt
      have r0 := TW.hide (read0 p (.int .i64 n) W hm)
      have s0 := TW.hide (skip0 p (.int .u64 by_) W hm)
      have a0 := TW.hide (at0 p W hm)
      have l0 := TW.hide (left0 p W hm)
      have y0 := TW.hide (copy0 p W hm)
      have w0 := TW.hide (write0 p d W hm)
      have t0 := TW.hide (reset0 p W hm)
      clear hm
      have hk1 : (k : Int) < 2 := by omega
      have hk0 : (0 : Int) ≤ k := by omega
      go_wp2_with fail
      refine r0.out.mono ?_
      rintro e w' ⟨rfl, rfl⟩
      go_wp2_with fail
      refine s0.out.mono ?_
      rintro e w' ⟨rfl, rfl⟩
      go_wp2_with fail
      refine a0.out.mono ?_
      rintro e w' ⟨rfl, rfl⟩
      go_wp2_with fail
      refine l0.out.mono ?_
      rintro e w' ⟨rfl, rfl⟩
      go_wp2_with fail
      refine y0.out.mono ?_
      rintro e w' ⟨rfl, rfl⟩
      go_wp2_with fail
      refine w0.out.mono ?_
      rintro e w' ⟨rfl, rfl⟩
      go_wp2_with fail
      refine t0.out.mono ?_
      rintro e w' ⟨rfl, rfl⟩
      go_wp2_with fail
      go_round
      case rel => exact ⟨k + 1, by omega, by go_num⟩
      case measure => simp [intOf]; omega
    · obtain rfl : k = 2 := by omega
      go_wp2_with fail
      go_ret
      exact ⟨rfl, B2.out⟩
end LW
end Go.Proofs.YtplpplbmajiclabGreat
