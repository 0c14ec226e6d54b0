/-
  What the calls Same (the document) and same (the laws) give: whether the bytes are the same, for all rows of bytes.
-/
import Derived.Test.YtkgemkfajkcgcaaDoorBase
namespace Go.Proofs.YtkgemkfajkcgcaaDoor
open Go.RowKit
namespace LW
open Words
theorem same0 (a a' : Option Addr) (cap cap' : Nat) (w : World) :
    Calls Tryd.prog 29 #[.slice a 0 cap, .slice a' 0 cap'] w fun e w' => e = .returned (.bool true) ∧ ∃ q, w' = w.drewN q := by
  go_enter Tryd.func29, Tryd.ntmps29
  go_wp2
  go_loop [5] (fun i => i = .int .i64 0) (fun _ => 0)
  case atStart => rfl
  case round =>
    subst hrel
    go_wp2
    go_ret
    exact ⟨rfl, 0, rfl⟩
set_option maxHeartbeats 400000 in
theorem same (a a' : Option Addr) (cap cap' : Nat) (zs ys : List Int) (w : World) (hr : Row w a zs) (hr' : Row w a' ys) (hm : zs.length ≤ maxLen) (hm' : ys.length ≤ maxLen) :
    Calls Tryd.prog 29 #[.slice a zs.length cap, .slice a' ys.length cap'] w fun e w' =>
      e = .returned (.bool (decide (zs = ys))) ∧ ∃ q, w' = w.drewN q := by
  unfold maxLen at hm hm'
  by_cases hl : zs.length = ys.length
  · rcases hr with rfl | ⟨b, off, rfl, hcell⟩
    · have : ys = [] := List.length_eq_zero_iff.1 hl.symm
      subst this
      exact same0 _ _ _ _ _
    · rcases hr' with rfl | ⟨b', off', rfl, hcell'⟩
      · have : zs = [] := List.length_eq_zero_iff.1 hl
        subst this
        exact same0 _ _ _ _ _
      · have hcell2 : ∀ i, i < zs.length → w.cell? ⟨b', off' + i, none⟩ = some (.int .u8 (ys.getD i 0)) := fun i h => hcell' i (by omega)
        rw [← hl]
        obtain ⟨len, hlen⟩ : ∃ len, zs.length = len := ⟨_, rfl⟩
        have hs : ∀ k, k < len → zs.take (k + 1) = zs.take k ++ [zs.getD k 0] ∧ ys.take (k + 1) = ys.take k ++ [ys.getD k 0] := fun k h => ⟨take_snoc _ _ (by omega), take_snoc _ _ (by omega)⟩
        rw [hlen] at hm hcell hcell2 hl ⊢
        have HE := TW.hide hl
        have H1 := TW.hide hcell
        have H2 := TW.hide hcell2
        have HN := TW.hide hlen
        have HS := TW.hide hs
        clear hl hcell hcell' hm' hcell2 hlen hs
        go_enter Tryd.func29, Tryd.ntmps29
        go_wp2
        go_loopw [5] (fun i wr => ∃ (k : Nat) (q : Nat), k ≤ len ∧ i = .int .i64 k ∧ zs.take k = ys.take k ∧ wr = w.drewN q) (fun i _ => len - (intOf i).toNat)
        case atStart => exact ⟨0, 0, Nat.zero_le _, rfl, rfl, rfl⟩
        case round =>
          obtain ⟨k, q, hk, rfl, he, rfl⟩ := hrel
          have HE2 := TW.hide he
          clear he
          by_cases hlt : k < len
          · have hc := H1.out k hlt
            have hc' := H2.out k hlt
            have hs := HS.out k hlt
            generalize zs.getD k 0 = z at *
            generalize ys.getD k 0 = y at *
            have HS' := TW.hide hs
            clear hs
            by_cases hzy : z = y
            · have ht : (z != y) = false := by simp [hzy]
              have HZ := TW.hide hzy
              clear hzy
              go_wp2
              go_quiet (fail)
              go_wp2
              go_roundw
              case rel => exact ⟨k + 1, q + nq, by omega, by go_num, by rw [HS'.out.1, HS'.out.2, HE2.out, HZ.out], rfl⟩
              case measure => simp [intOf]; omega
            · have ht : (z != y) = true := by simp [hzy]
              have HZ := TW.hide hzy
              clear hzy
              go_wp2
              go_quiet (fail)
              go_wp2
              go_ret
              refine ⟨ret_bool (Eq.symm (decide_eq_false fun h => HZ.out ?_)), q + nq, by simp⟩
              have h1 := HS'.out
              rw [h] at h1
              have h2 := h1.1.symm.trans h1.2
              simpa using h2
          · go_wp2
            go_ret
            refine ⟨ret_bool ?_, _, rfl⟩
            have h1 := HE2.out
            rw [List.take_of_length_le (by rw [HN.out]; omega), List.take_of_length_le (by rw [← HE.out]; omega)] at h1
            simp [h1]
  · have hne : ((zs.length : Int) != (ys.length : Int)) = true := by simp; omega
    have hd : decide (zs = ys) = false := by simp; intro h; exact hl (by rw [h])
    rw [hd]
    generalize zs.length = l1 at *
    generalize ys.length = l2 at *
    clear hr hr' hl
    go_enter Tryd.func29, Tryd.ntmps29
    go_wp2
    go_ret
    exact ⟨rfl, 0, rfl⟩
end LW
end Go.Proofs.YtkgemkfajkcgcaaDoor
