/-
  What strconv.FormatUint gives at base 10.
-/
import Derived.Test.YteakoajkmcbilabDoorRDigits
import Derived.Test.YteakoajkmcbilabDoorLayFI
import Derived.Shelf.Strconv.Itoa3
import Derived.Lib.AppendIntMem
namespace Go.Proofs.YteakoajkmcbilabDoor
open Go.RowKit Go.Shelf Go.Sort
set_option linter.unusedVariables false
set_option linter.unusedSimpArgs false
namespace LW
open Words
set_option maxRecDepth 100000 in
set_option maxHeartbeats 3200000 in
theorem fmtU' (u : Nat) (h64 : u < 18446744073709551616) (w : World) (htab : Lib.TabIs Tryd.prog w "internal/strconv.uint64pow10" .u64 Lib.pow10Tab) :
    Calls Tryd.prog 68 #[.int .u64 u, .int .i64 10] w fun e w' => e = .returned (.string ⟨(Lib.decDigits u).toArray⟩) ∧ Below w.heap.size w w' := by
  by_cases hs : u < 100
  · have hu : (u : Int) < 100 := by omega
    have hc := Any.internal_strconv_small (P := Tryd.prog) (ρ := laysFI_ren) { laysFI with } u hs w
    have e1 : IntKind.i64.wrap (u : Int) = u := by rw [IntKind.wrap_i64]; omega
    have HC := TW.hide hc
    clear hc
    go_enter Tryd.func68, Tryd.ntmps68
    go_wp2_with fail
    refine HC.out.mono ?_
    rintro e w' ⟨rfl, rfl⟩
    go_wp2
    go_ret
    exact ⟨rfl, Below.refl _ _⟩
  · have hu : ¬ (u : Int) < 100 := by omega
    have hu1 : 1 ≤ u := by omega
    have hnd20 : Lib.nDigits u ≤ 20 := by have := Lib.numDigits_eq u hu1 h64; split at this <;> omega
    have hn := fun W ht => Any.internal_strconv_numDigits (P := Tryd.prog) (ρ := laysFI_ren) { laysFI with } u hu1 h64 W ht
    have hH0 := Lib.holds_zero0 w 126 (Lib.nDigits u) (by omega)
    have hf := Any.internal_strconv_formatBase10 (P := Tryd.prog) (ρ := laysFI_ren) { laysFI with } w.heap.size 0 24 u (Array.replicate (Lib.nDigits u) 0) (w.alloc (.cells Lib.zeros24 126)) hH0 (by rw [Array.size_replicate]; exact Lib.lt_pow_nDigits u) h64 (by rw [Array.size_replicate]; omega)
    rw [Array.size_replicate] at hf
    have HH := TW.hide hH0
    have HN := TW.hide hn
    have HF := TW.hide hf
    have HT := TW.hide (Lib.tabIs_alloc htab (.cells Lib.zeros24 126))
    have k0 : (0 : Int) ≤ (Lib.nDigits u : Int) := by omega
    have k1 : (Lib.nDigits u : Int) ≤ 24 := by omega
    clear hH0 hn hf htab
    go_enter Tryd.func68, Tryd.ntmps68
    go_wp2_with fail
    refine (HN.out _ HT.out).mono ?_
    rintro e w' ⟨rfl, rfl⟩
    go_wp2_with fail
    refine HF.out.mono ?_
    rintro e w' ⟨rfl, k, v', dk, rfl, hF⟩
    have hcv : (convert 24 9 (.slice (some ⟨w.heap.size, 0, none⟩) (Lib.nDigits u) 24)).run Tryd.prog ((putRow (fun (b : UInt8) => Value.int .u8 (b.toNat : Int)) (w.alloc (.cells Lib.zeros24 126)) w.heap.size 0 dk).drewN k) = .ok (.string ⟨(Lib.decDigits u).toArray⟩) ((putRow (fun (b : UInt8) => Value.int .u8 (b.toNat : Int)) (w.alloc (.cells Lib.zeros24 126)) w.heap.size 0 dk).drewN k) := by
      have h := run_convert_bytes_back (P := Tryd.prog) ((putRow (fun (b : UInt8) => Value.int .u8 (b.toNat : Int)) (w.alloc (.cells Lib.zeros24 126)) w.heap.size 0 dk).drewN k) 24 9 5 ⟨w.heap.size, 0, none⟩ 24 (Lib.decDigits u) Tryd.underlying24 Tryd.underlying5 Tryd.underlying9 (fun j hj => by
        rw [Lib.row_is_numeral hF j hj, Lib.add_plain, World.cell?_drewN]
        exact cell?_putRow (fun (b : UInt8) => Value.int .u8 (b.toNat : Int)) _ w.heap.size 0 _ dk HH.out (by rw [hF.size, Array.size_replicate]) j (by rw [hF.size]; rw [Lib.decDigits_length] at hj; exact hj))
      rw [Lib.decDigits_length] at h
      exact h
    obtain ⟨os, eo⟩ := Lib.fin_at w (.cells Lib.zeros24 126) dk k 0
    have HB : Hid (Below w.heap.size w ((putRow (fun (b : UInt8) => Value.int .u8 (b.toNat : Int)) (w.alloc (.cells Lib.zeros24 126)) w.heap.size 0 dk).drewN k)) := by
      show Below _ _ _
      rw [eo]; exact Lib.below_grow _ w (Nat.le_refl _) k os
    clear eo hF
    go_wp2
    go_ret
    exact ⟨rfl, HB.out⟩
theorem dec_dcs (u : Nat) : (dcs u).map (fun n => UInt8.ofNat n.toNat) = Lib.decDigits u := by
  induction u using Nat.strongRecOn with
  | _ u ih =>
    by_cases h : u < 10
    · rw [dcs_small u h, Lib.decDigits, dif_pos h, List.map_singleton, show (48 + (u : Int)).toNat = 48 + u by omega]
    · rw [dcs_great u h, Lib.decDigits, dif_neg h, List.map_append, ih (u / 10) (by omega), List.map_singleton, show (48 + (u : Int) % 10).toNat = 48 + u % 10 by omega]
theorem fmtU (u : Nat) (h64 : u < 18446744073709551616) (w : World) (htab : Lib.TabIs Tryd.prog w "internal/strconv.uint64pow10" .u64 Lib.pow10Tab) :
    Calls Tryd.prog 59 #[.int .u64 u, .int .i64 10] w fun e w' => e = .returned (.string (strOfNums (dcs u))) ∧ Below w.heap.size w w' := by
  have h := fmtU' u h64 w htab
  have he : (⟨(Lib.decDigits u).toArray⟩ : ByteArray) = strOfNums (dcs u) := by rw [← dec_dcs]; rfl
  rw [he] at h
  have H := TW.hide h
  clear h he htab
  go_enter Tryd.func59, Tryd.ntmps59
  go_wp2_with fail
  refine H.out.mono ?_
  rintro e w' ⟨rfl, hb⟩
  go_wp2
  go_ret
  exact ⟨rfl, hb⟩
end LW
end Go.Proofs.YteakoajkmcbilabDoor
