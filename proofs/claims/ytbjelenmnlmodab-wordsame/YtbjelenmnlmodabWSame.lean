/-
  What the call Same (the program) gives: whether the bytes are the same, for all rows of bytes.
-/
import Derived.Test.YtbjelenmnlmodabCopied
namespace Go.Proofs.Ytbjelenmnlmodab
open Go.RowKit
set_option linter.unusedVariables false
namespace LW
open Words
theorem nat_xor_zero (a b : Nat) : a ^^^ b = 0 ↔ a = b := by
  constructor
  · intro h
    have h2 : a ^^^ b ^^^ b = 0 ^^^ b := by rw [h]
    rw [Nat.xor_assoc, Nat.xor_self, Nat.xor_zero, Nat.zero_xor] at h2
    exact h2
  · rintro rfl; exact Nat.xor_self _
theorem orx (u z y : Int) (h0 : 0 ≤ u) (h1 : u < 256) (h2 : 0 ≤ z) (h3 : z < 256) (h4 : 0 ≤ y) (h5 : y < 256) :
    0 ≤ bits .or .u8 u (bits .xor .u8 z y) ∧ bits .or .u8 u (bits .xor .u8 z y) < 256 ∧ (bits .or .u8 u (bits .xor .u8 z y) = 0 ↔ u = 0 ∧ z = y) := by
  rw [u8_xor z y h2 h3 h4 h5]
  have hx : z.toNat ^^^ y.toNat < 2 ^ 8 := Nat.xor_lt_two_pow (by omega) (by omega)
  rw [u8_or u _ h0 h1 (by omega) (by omega), Int.toNat_natCast]
  have ho : u.toNat ||| (z.toNat ^^^ y.toNat) < 2 ^ 8 := Nat.or_lt_two_pow (by omega) hx
  refine ⟨by omega, by omega, ?_⟩
  rw [Int.natCast_eq_zero, Nat.or_eq_zero_iff, nat_xor_zero]
  omega
theorem wsame0 (a a' : Option Addr) (cap cap' : Nat) (w : World) :
    Calls Try.prog 13 #[.slice a 0 cap, .slice a' 0 cap'] w fun e w' => e = .returned (.bool true) ∧ ∃ q, w' = w.drewN q := by
  go_enter Try.func13, Try.ntmps13
  go_wp2
  go_loop [5, 14] (fun u i => u = .int .u8 0 ∧ i = .int .i64 0) (fun _ _ => 0)
  case atStart => exact ⟨rfl, rfl⟩
  case round =>
    obtain ⟨rfl, rfl⟩ := hrel
    go_wp2
    go_ret
    exact ⟨rfl, 0, rfl⟩
set_option maxHeartbeats 400000 in
theorem wsame (a a' : Option Addr) (cap cap' : Nat) (zs ys : List Int) (w : World) (hz : Byt zs) (hy : Byt ys) (hr : Row w a zs) (hr' : Row w a' ys) (hm : zs.length ≤ maxLen) (hm' : ys.length ≤ maxLen) :
    Calls Try.prog 13 #[.slice a zs.length cap, .slice a' ys.length cap'] w fun e w' =>
      e = .returned (.bool (decide (zs = ys))) ∧ ∃ q, w' = w.drewN q := by
  unfold maxLen at hm hm'
  by_cases hl : zs.length = ys.length
  · rcases hr with rfl | ⟨b, off, rfl, hcell⟩
    · have : ys = [] := List.length_eq_zero_iff.1 hl.symm
      subst this
      exact wsame0 _ _ _ _ _
    · rcases hr' with rfl | ⟨b', off', rfl, hcell'⟩
      · have : zs = [] := List.length_eq_zero_iff.1 hl
        subst this
        exact wsame0 _ _ _ _ _
      · have hcell2 : ∀ i, i < zs.length → w.cell? ⟨b', off' + i, none⟩ = some (.int .u8 (ys.getD i 0)) := fun i h => hcell' i (by omega)
        rw [← hl]
        obtain ⟨len, hlen⟩ : ∃ len, zs.length = len := ⟨_, rfl⟩
        have hs : ∀ k, k < len → zs.take (k + 1) = zs.take k ++ [zs.getD k 0] ∧ ys.take (k + 1) = ys.take k ++ [ys.getD k 0] := fun k h => ⟨take_snoc _ _ (by omega), take_snoc _ _ (by omega)⟩
        rw [hlen] at hm hcell hcell2 hl ⊢
        have HE := TW.hide hl
        have H1 := TW.hide hcell
        have H2 := TW.hide hcell2
        have HN := TW.hide hlen
        have HS := TW.hide hs
        have HZ := TW.hide hz
        have HY := TW.hide hy
        clear hl hcell hcell' hm' hcell2 hlen hs hz hy
        go_enter Try.func13, Try.ntmps13
        go_wp2
        go_loopw [5, 14] (fun v i wr => ∃ (k : Nat) (q : Nat) (u : Int), k ≤ len ∧ i = .int .i64 k ∧ v = .int .u8 u ∧ 0 ≤ u ∧ u < 256 ∧ (u = 0 ↔ zs.take k = ys.take k) ∧ wr = w.drewN q) (fun _ i _ => len - (intOf i).toNat)
        case atStart => exact ⟨0, 0, 0, Nat.zero_le _, rfl, rfl, by omega, by omega, by simp, rfl⟩
        case round =>
          obtain ⟨k, q, u, hk, rfl, rfl, hu0, hu1, he, rfl⟩ := hrel
          have HE2 := TW.hide he
          clear he
          by_cases hlt : k < len
          · have hc := H1.out k hlt
            have hc' := H2.out k hlt
            have hs := HS.out k hlt
            have hb := HZ.out.get k
            have hb' := HY.out.get k
            generalize zs.getD k 0 = z at *
            generalize ys.getD k 0 = y at *
            have ho := orx u z y hu0 hu1 hb.1 hb.2 hb'.1 hb'.2
            have HS' := TW.hide hs
            have HO := TW.hide ho
            obtain ⟨hb1, hb2⟩ := hb
            obtain ⟨hb3, hb4⟩ := hb'
            clear hs ho
            go_wp2
            go_quiet (fail)
            go_wp2
            go_roundw
            case rel =>
              refine ⟨k + 1, q + nq, _, by omega, by go_num, rfl, HO.out.1, HO.out.2.1, ?_, rfl⟩
              rw [HO.out.2.2, HE2.out, HS'.out.1, HS'.out.2]
              constructor
              · rintro ⟨h, rfl⟩; rw [h]
              · intro h
                have := List.append_inj' h rfl
                simpa using this
            case measure => simp [intOf]; omega
          · go_wp2
            go_ret
            refine ⟨ret_bool ?_, _, rfl⟩
            have h1 := HE2.out
            rw [List.take_of_length_le (by rw [HN.out]; omega), List.take_of_length_le (by rw [← HE.out]; omega)] at h1
            rw [Bool.eq_iff_iff]
            simp [h1]
  · have hne : ((zs.length : Int) != (ys.length : Int)) = true := by simp; omega
    have hd : decide (zs = ys) = false := by simp; intro h; exact hl (by rw [h])
    rw [hd]
    generalize zs.length = l1 at *
    generalize ys.length = l2 at *
    clear hr hr' hl
    go_enter Try.func13, Try.ntmps13
    go_wp2
    go_ret
    exact ⟨rfl, 0, rfl⟩
end LW
end Go.Proofs.Ytbjelenmnlmodab
