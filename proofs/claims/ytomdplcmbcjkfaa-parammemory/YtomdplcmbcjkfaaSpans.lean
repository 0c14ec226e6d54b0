/-
  What the calls load (the program) and read (the document) give: the number that stands in a span.
-/
import Derived.Test.YtomdplcmbcjkfaaCheck
namespace Go.Proofs.Ytomdplcmbcjkfaa
open Go.RowKit
set_option linter.unusedVariables false
namespace LW
open Words
set_option maxHeartbeats 2000000 in
theorem spanLoad (a : Option Addr) (cap : Nat) (zs : List Int) (j n : Nat) (w : World) (hz : Byt zs) (hr : Row w a zs) (hm : zs.length ≤ maxLen) (hn : 1 ≤ n) (hn8 : n ≤ 8) (hl : j + n ≤ zs.length) :
    Calls Try.prog 29 #[.agg #[.int .i64 j, .int .i64 n], .slice a zs.length cap] w fun e w' =>
      e = .returned (.int .u64 (le ((zs.drop j).take n))) ∧ Below w.heap.size w w' := by
  unfold maxLen at hm
  rcases hr with rfl | ⟨b, off, rfl, hcell⟩
  · simp at hl; omega
  · have hL := (hz.drop j).take n
    have hlen : ((zs.drop j).take n).length = n := by simp; omega
    have hget : ∀ k, k < n → w.cell? ⟨b, off + (j + k), none⟩ = some (.int .u8 (((zs.drop j).take n).getD k 0)) := by
      intro k hk
      rw [hcell (j + k) (by omega)]
      simp [List.getD_eq_getElem?_getD, List.getElem?_drop, hk]
    have hbw : b < w.heap.size := lt_of_cell (hcell j (by omega))
    have hor := le_or ((zs.drop j).take n)
    generalize (zs.drop j).take n = L at *
    generalize zs.length = len at *
    clear hcell hz
    have hb := (Below.refl w.heap.size w).alloc (Nat.le_refl _) (.cells #[.int .i64 j, .int .i64 n] 52)
    have n0 := heap_alloc_new w (.cells #[.int .i64 j, .int .i64 n] 52)
    have hget' : ∀ k, k < n → (w.alloc (.cells #[.int .i64 j, .int .i64 n] 52)).cell? ⟨b, off + (j + k), none⟩ = some (.int .u8 (L.getD k 0)) := fun k hk => by rw [hb.cell hbw]; exact hget k hk
    clear hget
    have HL := TW.hide hL
    have HN := TW.hide hlen
    have HO := TW.hide hor
    clear hL hlen hor
    go_enter Try.func29, Try.ntmps29
    go_wp2
    generalize w.alloc (.cells #[.int .i64 j, .int .i64 n] 52) = W at hb n0 hget' ⊢
    have c0 := blk_cell n0 (i := 0) (v := .int .i64 j) rfl
    have HG := TW.hide hget'
    have HB := TW.hide hb
    clear hget' hb n0
    go_loop [5, 9] (fun v i => ∃ k : Nat, k ≤ n ∧ i = .int .i64 k ∧ v = .int .u64 (le (L.take k))) (fun _ i => n - (intOf i).toNat)
    case atStart => exact ⟨0, Nat.zero_le _, rfl, rfl⟩
    case round =>
      obtain ⟨k, hk, rfl, rfl⟩ := hrel
      by_cases hlt : k < n
      · have hc := HG.out k hlt
        have hb := HL.out.get k
        have hf := HO.out k HL.out (by rw [HN.out]; omega) (by omega)
        generalize L.getD k 0 = z at *
        obtain ⟨hb1, hb2⟩ := hb
        have hwz : IntKind.u64.wrap z = z := by rw [IntKind.wrap_u64]; omega
        have HF : Hid (bits BinOp.or IntKind.u64 (le (List.take k L)) (IntKind.u64.wrap (z * 2 ^ (8 * k))) = le (List.take (k + 1) L)) := hf
        clear hf
        have hjk : IntKind.i64.wrap ((j : Int) + (k : Int)) = ((j + k : Nat) : Int) := by rw [IntKind.wrap_i64]; omega
        go_wp2
        go_round
        case rel => exact ⟨k + 1, by omega, by go_num, by rw [HF.out]⟩
        case measure => simp [intOf]; omega
      · go_wp2
        go_ret
        exact ⟨TW.ret_int (by rw [List.take_of_length_le (by rw [HN.out]; omega)]), HB.out⟩
theorem or_low (x z : Int) (hx : 0 ≤ x) (hz : 0 ≤ z) (hz' : z < 256) (h : x * 256 + z < 18446744073709551616) : bits .or .u64 (IntKind.u64.wrap (x * 256)) z = x * 256 + z := by
  rw [IntKind.wrap_u64, Int.emod_eq_of_lt (by omega) (by omega)]
  obtain ⟨X, rfl⟩ := Int.eq_ofNat_of_zero_le hx
  obtain ⟨Z, rfl⟩ := Int.eq_ofNat_of_zero_le hz
  have e1 : ((X : Int) * 256) = ((X * 2 ^ 8 : Nat) : Int) := by omega
  rw [e1, u64_or_nat _ _ (by omega) (by omega), nat_join 8 _ _ (by simp) (by omega)]
  omega
set_option maxHeartbeats 2000000 in
theorem rread (a : Option Addr) (cap : Nat) (zs : List Int) (j n : Nat) (w : World) (hz : Byt zs) (hr : Row w a zs) (hm : zs.length ≤ maxLen) (hn : 1 ≤ n) (hn8 : n ≤ 8) (hl : j + n ≤ zs.length) :
    Calls Try.prog 38 #[.slice a zs.length cap, .int .i64 j, .int .i64 n] w fun e w' =>
      e = .returned (.int .u64 (le ((zs.drop j).take n))) ∧ w = w' := by
  unfold maxLen at hm
  rcases hr with rfl | ⟨b, off, rfl, hcell⟩
  · simp at hl; omega
  · have hL := (hz.drop j).take n
    have hlen : ((zs.drop j).take n).length = n := by simp; omega
    have hget : ∀ k, k < n → w.cell? ⟨b, off + (j + k), none⟩ = some (.int .u8 (((zs.drop j).take n).getD k 0)) := by
      intro k hk
      rw [hcell (j + k) (by omega)]
      simp [List.getD_eq_getElem?_getD, List.getElem?_drop, hk]
    generalize (zs.drop j).take n = L at *
    have hsm := fun k => le_small L k hL (by omega)
    have hdn := fun k (h : k < n) => le_down L k (by omega)
    generalize zs.length = len at *
    clear hcell hz
    have HL := TW.hide hL
    have HG := TW.hide hget
    have HN := TW.hide hlen
    have HS := TW.hide hsm
    have HD := TW.hide hdn
    clear hL hget hlen hsm hdn
    go_enter Try.func38, Try.ntmps38
    go_wp2
    go_loop [7, 8] (fun v i => ∃ k : Nat, k ≤ n ∧ i = .int .i64 ((k : Int) - 1) ∧ v = .int .u64 (le (L.drop k))) (fun _ i => (intOf i + 1).toNat)
    case atStart => exact ⟨n, Nat.le_refl _, rfl, by rw [List.drop_of_length_le (by rw [HN.out]; omega)]; rfl⟩
    case round =>
      obtain ⟨k, hk, rfl, rfl⟩ := hrel
      cases k with
      | succ k =>
        have hc := HG.out k (by omega)
        have hb := HL.out.get k
        have hf := HD.out k (by omega)
        have hx := HS.out (k + 1)
        have hy := HS.out k
        generalize L.getD k 0 = z at *
        generalize le (L.drop (k + 1)) = x at *
        obtain ⟨hb1, hb2⟩ := hb
        have hwz : IntKind.u64.wrap z = z := by rw [IntKind.wrap_u64]; omega
        obtain ⟨hx1, hx2⟩ := hx
        have hor := or_low x z hx1 hb1 hb2 (by omega)
        have HF : Hid (bits .or .u64 (IntKind.u64.wrap (x * 256)) z = le (L.drop k)) := hor.trans hf.symm
        clear hf hy hor
        go_wp2
        go_round
        case rel => exact ⟨k, by omega, by go_num, by rw [← HF.out]⟩
        case measure => simp [intOf]
      | zero =>
        go_wp2
        go_ret
        exact ⟨TW.ret_int (by simp), rfl⟩
end LW
end Go.Proofs.Ytomdplcmbcjkfaa
