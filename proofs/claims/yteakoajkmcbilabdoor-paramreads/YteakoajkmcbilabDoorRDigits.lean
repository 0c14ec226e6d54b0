/-
  What the call digits (the document) gives: a number's decimal digits.
-/
import Derived.Test.YteakoajkmcbilabDoorBase
import Derived.Laws.BytesArg
import Derived.Deep.RegionHeld3
namespace Go.Proofs.YteakoajkmcbilabDoor
open Go.RowKit
set_option linter.unusedVariables false
set_option linter.unusedSimpArgs false
namespace LW
open Words
/-- A number's decimal digits, as bytes. -/
def dcsF : Nat → Nat → List Int
  | 0, n => [48 + (n : Int)]
  | k + 1, n => if n < 10 then [48 + (n : Int)] else dcsF k (n / 10) ++ [48 + (n : Int) % 10]
def dcs (n : Nat) : List Int := dcsF n n
theorem dcsF_eq : ∀ (k j n : Nat), n ≤ k → n ≤ j → dcsF k n = dcsF j n
  | 0, 0, _, _, _ => rfl
  | 0, j + 1, n, h, _ => by
      obtain rfl : n = 0 := by omega
      simp [dcsF]
  | k + 1, 0, n, _, h => by
      obtain rfl : n = 0 := by omega
      simp [dcsF]
  | k + 1, j + 1, n, hk, hj => by
      by_cases h : n < 10
      · simp only [dcsF, if_pos h]
      · simp only [dcsF, if_neg h]; rw [dcsF_eq k j (n / 10) (by omega) (by omega)]
theorem dcs_small (n : Nat) (h : n < 10) : dcs n = [48 + (n : Int)] := by
  unfold dcs; cases n with
  | zero => rfl
  | succ m => simp only [dcsF, if_pos h]
theorem dcs_great (n : Nat) (h : ¬ n < 10) : dcs n = dcs (n / 10) ++ [48 + (n : Int) % 10] := by
  unfold dcs; cases n with
  | zero => omega
  | succ m => simp only [dcsF, if_neg h]; rw [dcsF_eq m ((m + 1) / 10) _ (by omega) (by omega)]
theorem strOf_append (a b : List Int) : strOfNums a ++ strOfNums b = strOfNums (a ++ b) := by
  apply ByteArray.ext
  simp [strOfNums, ByteArray.data_append]
theorem strOf_size (a : List Int) : (strOfNums a).size = a.length := by simp [strOfNums, ByteArray.size]
theorem conv_one (w : World) (x : Int) : (convert 24 9 (.slice (some ⟨w.heap.size, 0, none⟩) 1 1)).run Tryd.prog (w.alloc (.cells #[.int .u8 x] 5)) = .ok (.string (strOfNums [x])) (w.alloc (.cells #[.int .u8 x] 5)) := by
  refine run_convert_bytes_arg _ 24 5 Tryd.underlying24 Tryd.underlying5 w.heap.size 0 1 1 [x] rfl (fun i hi => ?_) 9 Tryd.underlying9
  obtain rfl : i = 0 := by simpa using hi
  have h := heap_alloc_new w (.cells #[.int .u8 x] 5)
  simp only [World.cell?, Nat.add_zero, h]
  rfl
set_option maxRecDepth 100000 in
set_option maxHeartbeats 1600000 in
theorem rdigits (n : Nat) (hn : n < 18446744073709551616) (w : World) :
    Calls Tryd.prog 27 #[.int .u64 n] w fun e w' => e = .returned (.string (strOfNums (dcs n))) ∧ Below w.heap.size w w' := by
  go_enter Tryd.func27, Tryd.ntmps27
  go_wp2
  go_loopw [0, 3] (fun v s wr => ∃ (k : Nat) (suf : List Int), v = .int .u64 k ∧ s = .string (strOfNums suf) ∧ dcs n = dcs k ++ suf ∧ (k ≤ n ∧ (suf.length = 0 ∨ suf.length + k ≤ n / 10 + 1)) ∧ Below w.heap.size w wr) (fun v _ _ => (intOf v).toNat)
  case atStart => exact ⟨n, [], rfl, rfl, by simp, ⟨Nat.le_refl _, .inl rfl⟩, Below.refl _ _⟩
  case round =>
    rename_i Q1 K1 a1
    obtain ⟨k, suf, rfl, rfl, hd, hk, hb⟩ := hrel
    by_cases hlt : k < 10
    · have HA := TW.hide a1
      clear a1
      have h1 : ¬ (10 : Int) ≤ (k : Int) := by omega
      rw [dcs_small k hlt] at hd
      have hs : ¬ 9223372036854775807 < (strOfNums [48 + (k : Int)]).size + (strOfNums suf).size := by rw [strOf_size, strOf_size, List.length_singleton]; omega
      have hcv := conv_one wr (48 + (k : Int))
      have e1 : IntKind.u64.wrap (48 + (k : Int)) = 48 + (k : Int) := by rw [IntKind.wrap_u64]; omega
      have e2 : IntKind.u8.wrap (48 + (k : Int)) = 48 + (k : Int) := by rw [IntKind.wrap_u8]; omega
      have HD := TW.hide hd
      have HB : Hid (Below w.heap.size w (wr.alloc (.cells #[.int .u8 (48 + (k : Int))] 5))) := hb.alloc hb.size _
      clear hd hb
      go_wp2
      refine HA.out _ _ ?_
      clear HA
      go_wp2
      go_ret
      exact ⟨by rw [HD.out, strOf_append]; rfl, HB.out⟩
    · have h1 : (10 : Int) ≤ (k : Int) := by omega
      rw [dcs_great k hlt] at hd
      have hs : ¬ 9223372036854775807 < (strOfNums [48 + (k : Int) % 10]).size + (strOfNums suf).size := by rw [strOf_size, strOf_size, List.length_singleton]; omega
      have e0 : (k : Int).tmod 10 = (k : Int) % 10 := Int.tmod_eq_emod_of_nonneg (by omega)
      have e3 : (k : Int).tdiv 10 = (k : Int) / 10 := Int.tdiv_eq_ediv_of_nonneg (by omega)
      have hcv := conv_one wr (48 + (k : Int) % 10)
      have e1 : IntKind.u64.wrap (48 + (k : Int) % 10) = 48 + (k : Int) % 10 := by rw [IntKind.wrap_u64]; omega
      have e2 : IntKind.u8.wrap (48 + (k : Int) % 10) = 48 + (k : Int) % 10 := by rw [IntKind.wrap_u8]; omega
      have e4 : IntKind.u64.wrap ((k : Int) / 10) = (k : Int) / 10 := by rw [IntKind.wrap_u64]; omega
      have HD := TW.hide hd
      have HB : Hid (Below w.heap.size w (wr.alloc (.cells #[.int .u8 (48 + (k : Int) % 10)] 5))) := hb.alloc hb.size _
      clear hd hb
      go_wp2
      go_roundw
      case rel => exact ⟨k / 10, [48 + (k : Int) % 10] ++ suf, by simp, by rw [strOf_append], by rw [HD.out, List.append_assoc], ⟨by omega, .inr (by rw [List.length_append, List.length_singleton]; omega)⟩, HB.out⟩
      case measure => simp [intOf]; omega
end LW
end Go.Proofs.YteakoajkmcbilabDoor
