/-
  What the calls Load32, Load64 and load (the program) and Load (the document) give, for every row of bytes and every place.
-/
import Derived.Test.YtkgemkfajkcgcaaDoorChecked
import Derived.Test.YtkgemkfajkcgcaaDoorBase
import Derived.Test.YtkgemkfajkcgcaaDoorWords
import Derived.WalkKit
import Derived.WalkLawsBesides
import Derived.BigQuiet
import Derived.Deep.QuietTactic
namespace Go.Proofs.YtkgemkfajkcgcaaDoor
open Go.RowKit
namespace LW
open Words

set_option maxHeartbeats 400000 in
theorem load (a : Option Addr) (cap : Nat) (zs : List Int) (at_ : Int) (n : Nat) (w : World) (hz : Byt zs) (hr : Row w a zs) (hm : zs.length ≤ maxLen)
    (ha0 : -9223372036854775808 ≤ at_) (ha1 : at_ ≤ 9223372036854775807) (hn : 1 ≤ n) (hn8 : n ≤ 8) :
    Calls Tryd.prog 41 #[.slice a zs.length cap, .int .i64 at_, .int .i64 n] w fun e w' =>
      e = .returned (.tuple #[.int .u64 (ld zs at_ n).1, .int .i64 (ld zs at_ n).2]) ∧ w = w' := by
  unfold maxLen at hm
  by_cases h0 : at_ < 0
  · rw [ld_neg _ _ _ h0]
    generalize zs.length = len at *
    clear hr hz
    go_enter Tryd.func41, Tryd.ntmps41
    go_wp2
    go_ret2
    exact ⟨rfl, rfl⟩
  · have h0' : 0 ≤ at_ := by omega
    by_cases hs : (zs.length : Int) - at_ < n
    · rw [ld_short _ _ _ h0' hs]
      generalize zs.length = len at *
      clear hr hz
      go_enter Tryd.func41, Tryd.ntmps41
      go_wp2
      go_ret2
      exact ⟨rfl, rfl⟩
    · rw [ld_ok _ _ _ h0' hs]
      obtain ⟨j, rfl⟩ := Int.eq_ofNat_of_zero_le h0'
      rcases hr with rfl | ⟨b, off, rfl, hcell⟩
      · simp at hs; omega
      · rw [Int.toNat_natCast]
        have hL := (hz.drop j).take n
        have hlen : ((zs.drop j).take n).length = n := by simp; omega
        have hget : ∀ k, k < n → w.cell? ⟨b, off + (j + k), none⟩ = some (.int .u8 (((zs.drop j).take n).getD k 0)) := by
          intro k hk
          rw [hcell (j + k) (by omega)]
          simp [List.getD_eq_getElem?_getD, List.getElem?_drop, hk]
        have hor := le_or ((zs.drop j).take n)
        generalize (zs.drop j).take n = L at *
        have hlz : j + n ≤ zs.length := by omega
        generalize zs.length = len at *
        clear hcell hz ha0 h0 h0'
        have HL := TW.hide hL
        have HG := TW.hide hget
        have HN := TW.hide hlen
        have HO := TW.hide hor
        clear hL hget hlen hor
        go_enter Tryd.func41, Tryd.ntmps41
        go_wp2
        go_loop [8, 19] (fun v i => ∃ k : Nat, k ≤ n ∧ i = .int .i64 k ∧ v = .int .u64 (le (L.take k))) (fun _ i => n - (intOf i).toNat)
        case atStart => exact ⟨0, Nat.zero_le _, rfl, rfl⟩
        case round =>
          obtain ⟨k, hk, rfl, rfl⟩ := hrel
          by_cases hlt : k < n
          · have hc := HG.out k hlt
            have hb := HL.out.get k
            have hf := HO.out k HL.out (by rw [HN.out]; omega) (by omega)
            generalize L.getD k 0 = z at *
            obtain ⟨hb1, hb2⟩ := hb
            have hwz : IntKind.u64.wrap z = z := by rw [IntKind.wrap_u64]; omega
            have HF : Hid (bits BinOp.or IntKind.u64 (le (List.take k L)) (IntKind.u64.wrap (z * 2 ^ (8 * k))) = le (List.take (k + 1) L)) := hf
            clear hf
            go_wp2
            go_round
            case rel => exact ⟨k + 1, by omega, by go_num, by rw [HF.out]⟩
            case measure => simp [intOf]; omega
          · go_wp2
            go_ret2
            exact ⟨ret_two (by rw [List.take_of_length_le (by rw [HN.out]; omega)]) rfl, rfl⟩

theorem load64 (a : Option Addr) (cap : Nat) (zs : List Int) (at_ : Int) (w : World) (hz : Byt zs) (hr : Row w a zs) (hm : zs.length ≤ maxLen)
    (ha0 : -9223372036854775808 ≤ at_) (ha1 : at_ ≤ 9223372036854775807) :
    Calls Tryd.prog 37 #[.slice a zs.length cap, .int .i64 at_] w fun e w' =>
      e = .returned (.tuple #[.int .u64 (ld zs at_ 8).1, .int .i64 (ld zs at_ 8).2]) ∧ w = w' := by
  have hl := fun W (h : Row W a zs) => load a cap zs at_ 8 W hz h hm ha0 ha1 (by omega) (by omega)
  generalize ld zs at_ 8 = p at *
  obtain ⟨v, er⟩ := p
  simp only at hl ⊢
  have HL := TW.hide hl
  have HR := TW.hide hr
  clear hl hr
  generalize zs.length = len at *
  go_enter Tryd.func37, Tryd.ntmps37
  go_wp2_with fail
  refine (HL.out _ HR.out).mono ?_
  rintro e w' ⟨rfl, rfl⟩
  go_wp2_with fail
  go_ret2
  exact ⟨rfl, rfl⟩

set_option maxHeartbeats 400000 in
theorem rload (a : Option Addr) (cap : Nat) (zs : List Int) (at_ : Int) (n : Nat) (w : World) (hz : Byt zs) (hr : Row w a zs) (hm : zs.length ≤ maxLen)
    (ha0 : -9223372036854775808 ≤ at_) (ha1 : at_ ≤ 9223372036854775807) (hn : 1 ≤ n) (hn8 : n ≤ 8) :
    Calls Tryd.prog 31 #[.slice a zs.length cap, .int .i64 at_, .int .i64 n] w fun e w' =>
      e = .returned (.tuple #[.int .u64 (ld zs at_ n).1, .int .i64 (ld zs at_ n).2]) ∧ w = w' := by
  unfold maxLen at hm
  by_cases h0 : at_ < 0
  · rw [ld_neg _ _ _ h0]
    generalize zs.length = len at *
    clear hr hz
    go_enter Tryd.func31, Tryd.ntmps31
    go_wp2
    go_ret2
    exact ⟨rfl, rfl⟩
  · have h0' : 0 ≤ at_ := by omega
    by_cases hs : (zs.length : Int) - at_ < n
    · rw [ld_short _ _ _ h0' hs]
      generalize zs.length = len at *
      clear hr hz
      by_cases hg : (len : Int) < at_
      · go_enter Tryd.func31, Tryd.ntmps31
        go_wp2
        go_ret2
        exact ⟨rfl, rfl⟩
      · go_enter Tryd.func31, Tryd.ntmps31
        go_wp2
        go_ret2
        exact ⟨rfl, rfl⟩
    · rw [ld_ok _ _ _ h0' hs]
      obtain ⟨j, rfl⟩ := Int.eq_ofNat_of_zero_le h0'
      rcases hr with rfl | ⟨b, off, rfl, hcell⟩
      · simp at hs; omega
      · rw [Int.toNat_natCast]
        have hL := (hz.drop j).take n
        have hlen : ((zs.drop j).take n).length = n := by simp; omega
        have hget : ∀ k, k < n → w.cell? ⟨b, off + (j + k), none⟩ = some (.int .u8 (((zs.drop j).take n).getD k 0)) := by
          intro k hk
          rw [hcell (j + k) (by omega)]
          simp [List.getD_eq_getElem?_getD, List.getElem?_drop, hk]
        generalize (zs.drop j).take n = L at *
        have hlz : j + n ≤ zs.length := by omega
        have hsm := fun k => le_small L k hL (by omega)
        have hdn := fun k (h : k < n) => le_down L k (by omega)
        generalize zs.length = len at *
        clear hcell hz ha0 h0 h0'
        have hgr : ¬ (len : Int) < j := by omega
        have HL := TW.hide hL
        have HG := TW.hide hget
        have HN := TW.hide hlen
        have HS := TW.hide hsm
        have HD := TW.hide hdn
        clear hL hget hlen hsm hdn
        go_enter Tryd.func31, Tryd.ntmps31
        go_wp2
        go_loop [8, 9] (fun v i => ∃ k : Nat, k ≤ n ∧ i = .int .i64 ((k : Int) - 1) ∧ v = .int .u64 (le (L.drop k))) (fun _ i => (intOf i + 1).toNat)
        case atStart => exact ⟨n, Nat.le_refl _, rfl, by rw [List.drop_of_length_le (by rw [HN.out]; omega)]; rfl⟩
        case round =>
          obtain ⟨k, hk, rfl, rfl⟩ := hrel
          cases k with
          | succ k =>
            have hc := HG.out k (by omega)
            have hb := HL.out.get k
            have hf := HD.out k (by omega)
            have hx := HS.out (k + 1)
            have hy := HS.out k
            generalize L.getD k 0 = z at *
            generalize le (L.drop (k + 1)) = x at *
            obtain ⟨hb1, hb2⟩ := hb
            have hwz : IntKind.u64.wrap z = z := by rw [IntKind.wrap_u64]; omega
            have HF : Hid (le (L.drop k) = x * 256 + z ∧ IntKind.u64.wrap (x * 256) = x * 256 ∧ IntKind.u64.wrap (x * 256 + z) = x * 256 + z) := by
              refine ⟨hf, ?_, ?_⟩ <;> rw [IntKind.wrap_u64] <;> omega
            obtain ⟨hx1, hx2⟩ := hx
            clear hf hy
            go_wp2
            go_round
            case rel => exact ⟨k, by omega, by go_num, by rw [HF.out.1]; first | rfl | rw [HF.out.2.1, HF.out.2.2]⟩
            case measure => simp [intOf]
          | zero =>
            go_wp2
            go_ret2
            exact ⟨ret_two (by simp) rfl, rfl⟩
end LW
end Go.Proofs.YtkgemkfajkcgcaaDoor
