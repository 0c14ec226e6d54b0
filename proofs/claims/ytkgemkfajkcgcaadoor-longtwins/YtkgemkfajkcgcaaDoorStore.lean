/-
  What the calls store, Store32, Store64 (the program) and Store (the document) give, for every word.
-/
import Derived.Test.YtkgemkfajkcgcaaDoorSame
namespace Go.Proofs.YtkgemkfajkcgcaaDoor
open Go.RowKit
set_option linter.unusedVariables false
namespace LW
open Words

theorem set_vs (v : Int) (n k : Nat) (h : k < n) : (vs (un v k ++ List.replicate (n - k) 0)).set k (.int .u8 (v / 2 ^ (8 * k) % 256)) = vs (un v (k + 1) ++ List.replicate (n - (k + 1)) 0) := by
  have e : n - k = n - (k + 1) + 1 := by omega
  have hp : (2 : Int) ^ (8 * k) = 256 ^ k := by rw [Int.pow_mul]; rfl
  rw [vs_append, List.set_append_right _ _ (by rw [vs_length, un_length]; omega), vs_length, un_length, Nat.sub_self, e, List.replicate_succ]
  rw [un_snoc, hp]
  simp [vs]

set_option maxHeartbeats 400000 in
theorem store (v : Int) (n : Nat) (w : World) (hv0 : 0 ≤ v) (hv1 : v < 18446744073709551616) (hn : n ≤ 8) :
    Calls Tryd.prog 42 #[.int .u64 v, .int .i64 n] w fun e w' =>
      ∃ a cap, e = .returned (.slice a n cap) ∧ Row w' a (un v n) ∧ Below w.heap.size w w' := by
  obtain ⟨i0, hi, hz0, hz1, hz2⟩ := info_parts info5
  go_enter Tryd.func42, Tryd.ntmps42
  go_wp2_with (at_make; refine wpList_make_full _ rfl _ _ 31 rfl w.heap.size 5 i0 (.int .u8 0) 1 Tryd.underlying31 hi hz0 hz1 _ _ _ _ n rfl rfl rfl rfl (by rw [hz2]; omega) (by unfold maxLen; omega) (by omega) ?_; intro w1 hown hgrow)
  have hown1 : w1.ownsRow w.heap.size 5 1 (.slice (some ⟨w.heap.size, 0, none⟩) n n) n (vs (List.replicate n 0)) := by
    rw [← made_vs]; exact hown
  have hbel : Below w.heap.size w w1 := (Below.refl _ _).grown hgrow (Nat.le_refl _) (by intro k h; cases h)
  have H1 := TW.hide hown1
  have H2 := TW.hide hbel
  clear hown hgrow hown1 hbel
  go_loopw [10] (fun i wr => ∃ k : Nat, k ≤ n ∧ i = .int .i64 k ∧ wr.ownsRow w.heap.size 5 1 (.slice (some ⟨w.heap.size, 0, none⟩) n n) n (vs (un v k ++ List.replicate (n - k) 0)) ∧ Below w.heap.size w wr) (fun i _ => n - (intOf i).toNat)
  case atStart => exact ⟨0, Nat.zero_le _, rfl, by simpa [un] using H1.out, H2.out⟩
  case round =>
    obtain ⟨k, hk, rfl, hown, hbel⟩ := hrel
    have HO := TW.hide hown
    have HB := TW.hide hbel
    clear hown hbel H1 H2
    by_cases hlt : k < n
    · have hc : ∃ z, wr.cell? ⟨w.heap.size, k, none⟩ = some z := by
        rw [HO.out.cellAt k (by omega)]
        exact ⟨_, List.getElem?_eq_getElem (by rw [vs_length]; simp [un_length]; omega)⟩
      obtain ⟨z, hc⟩ := hc
      have hf := HO.out.frozenAt k
      go_wp2
      go_roundw
      case rel => exact ⟨k + 1, by omega, by go_num, by rw [← set_vs v n k hlt]; exact (HO.out.stored k _).1, HB.out.setCell (Nat.le_refl _) _⟩
      case measure => simp [intOf]; omega
    · go_wp2
      go_ret
      obtain rfl : k = n := by omega
      have hown := HO.out
      rw [Nat.sub_self, List.replicate_zero, List.append_nil] at hown
      have hr := row_of_own (zs := un v k) (by rw [un_length]; exact hown)
      obtain ⟨a, cap, he, hrow, _⟩ := hr
      rw [un_length] at he
      exact ⟨a, cap, congrArg Ending.returned he, hrow, HB.out⟩
theorem store64 (v : Int) (w : World) (hv0 : 0 ≤ v) (hv1 : v < 18446744073709551616) :
    Calls Tryd.prog 38 #[.int .u64 v] w fun e w' => ∃ a cap, e = .returned (.slice a 8 cap) ∧ Row w' a (un v 8) ∧ Below w.heap.size w w' := by
  have h := fun W => store v 8 W hv0 (by omega) (by omega)
  have H := TW.hide h
  clear h
  go_enter Tryd.func38, Tryd.ntmps38
  go_wp2_with fail
  refine (H.out _).mono ?_
  rintro e w1 ⟨a, cap, rfl, hrow, hbel⟩
  have H1 := TW.hide hrow
  have H2 := TW.hide hbel
  clear hrow hbel
  go_wp2_with fail
  go_ret
  exact ⟨a, cap, rfl, H1.out, H2.out⟩

set_option maxHeartbeats 400000 in
theorem rstore (v : Int) (n : Nat) (w : World) (hv0 : 0 ≤ v) (hv1 : v < 18446744073709551616) (hn : n ≤ 8) :
    Calls Tryd.prog 33 #[.int .u64 v, .int .i64 n] w fun e w' =>
      ∃ a cap, e = .returned (.slice a n cap) ∧ Row w' a (un v n) ∧ Below w.heap.size w w' := by
  obtain ⟨i0, hi, hz0, hz1, hz2⟩ := info_parts info5
  go_enter Tryd.func33, Tryd.ntmps33
  go_wp2
  go_loopw [0, 5, 6] (fun x b i wr => ∃ k : Nat, k ≤ n ∧ i = .int .i64 k ∧ x = .int .u64 (v / 256 ^ k) ∧ wr.ownsRow w.heap.size 5 1 b k (vs (un v k)) ∧ Below w.heap.size w wr) (fun _ _ i _ => n - (intOf i).toNat)
  case atStart => exact ⟨0, Nat.zero_le _, rfl, by simp, World.ownsRow_nil _ _ _ _, Below.refl _ _⟩
  case round =>
    obtain ⟨k, hk, rfl, rfl, hown, hbel⟩ := hrel
    by_cases hlt : k < n
    · have hx0 : 0 ≤ v / 256 ^ k := Int.ediv_nonneg hv0 (Int.le_of_lt (Int.pow_pos (by decide)))
      have hx1 : v / 256 ^ k < 18446744073709551616 := Int.lt_of_le_of_lt (Int.ediv_le_self _ hv0) hv1
      have hx2 : v / 256 ^ (k + 1) = v / 256 ^ k / 256 := by rw [Int.pow_succ, Int.ediv_ediv_of_nonneg (Int.le_of_lt (Int.pow_pos (by decide)))]
      have hs := un_snoc v k
      generalize v / 256 ^ k = x at *
      have HX := TW.hide hx2
      have HS := TW.hide hs
      have HB := TW.hide hbel
      clear hx2 hs hbel
      go_wp2_with (at_builtin; refine wpList_append_own _ rfl _ _ 31 rfl w.heap.size 5 i0 (.int .u8 0) 1 1 Tryd.underlying31 hi hz0 hz1 hz2 rfl (by decide) _ _ _ rfl (hown.alloc _) ⟨wr.heap.size, 0, none⟩ 1 1 [.int .u8 (x % 256)] rfl rfl ?c1 ?c2 ?c3 ?c4 ?c5 ?_)
      case c1 => exact one_new _ _
      case c2 => intro u hu; simp at hu; subst hu; rfl
      case c3 => unfold maxLen; omega
      case c4 => omega
      case c5 => have := HB.out.size; simp; omega
      intro v' w2 hown' hgrow' _
      have hbel2 : Below w.heap.size w w2 := (HB.out.alloc HB.out.size _).grown hgrow' (by have := HB.out.size; simp; omega) (own_block hown)
      have H1 := TW.hide hown'
      have H2 := TW.hide hbel2
      clear hown hown' hgrow' hbel2
      go_wp2
      go_roundw
      case rel => exact ⟨k + 1, by omega, by go_num, by rw [HX.out], by rw [HS.out, vs_append]; exact H1.out, H2.out⟩
      case measure => simp [intOf]; omega
    · go_wp2
      go_ret
      obtain rfl : k = n := by omega
      have hr := row_of_own (zs := un v k) (by rw [un_length]; exact hown)
      obtain ⟨a, cap, he, hrow, _⟩ := hr
      rw [un_length] at he
      exact ⟨a, cap, congrArg Ending.returned he, hrow, hbel⟩
end LW
end Go.Proofs.YtkgemkfajkcgcaaDoor
