/-
  What the call Hex (the document) gives.
-/
import Derived.Test.YteakoajkmcbilabDoorHex
namespace Go.Proofs.YteakoajkmcbilabDoor
open Go.RowKit
set_option linter.unusedVariables false
namespace LW
open Words
attribute [local go_sem ↓] Go.wp_at_zero Go.wp_at_succ
set_option maxRecDepth 100000 in
set_option maxHeartbeats 3200000 in
theorem rhex (a : Option Addr) (cap : Nat) (zs : List Int) (w : World) (hz : Byt zs) (hr : Row w a zs) (hm : 2 * zs.length ≤ 140737488355328) :
    Calls Tryd.prog 28 #[.slice a zs.length cap] w fun e w' => e = .returned (.string (strOfNums (hx zs))) ∧ Below w.heap.size w w' := by
  obtain ⟨i0, hi, hz0, hz1, hz2⟩ := info_parts info5
  rcases hr with rfl | ⟨b, off, rfl, hcell⟩
  · have hcv := fun W : World => run_convert_bytes_nil (P := Tryd.prog) W 24 5 Tryd.underlying24 Tryd.underlying5 0 0 9 Tryd.underlying9
    clear hz hm
    go_enter Tryd.func28, Tryd.ntmps28
    go_wp2
    go_loop [3, 4] (fun t i => t = .slice none 0 0 ∧ i = .int .i64 0) (fun _ _ => 0)
    case atStart => exact ⟨rfl, rfl⟩
    case round =>
      obtain ⟨rfl, rfl⟩ := hrel
      go_wp2
      go_ret
      exact ⟨rfl, Below.refl _ _⟩
  · obtain ⟨len, hlen⟩ : ∃ len, zs.length = len := ⟨_, rfl⟩
    have hs := fun k (h : k < len) => take_snoc zs k (by omega)
    have hbl : 0 < len → b < w.heap.size := fun h => lt_of_cell (hcell 0 (by omega))
    rw [hlen] at hm hcell ⊢
    have H1 := TW.hide hcell
    have HS := TW.hide hs
    have HN := TW.hide hlen
    have HZ := TW.hide hz
    have HBL := TW.hide hbl
    clear hcell hs hlen hz hbl
    go_enter Tryd.func28, Tryd.ntmps28
    go_wp2
    go_loopw [3, 4] (fun t i wr => ∃ k : Nat, k ≤ len ∧ i = .int .i64 k ∧ wr.ownsRow w.heap.size 5 1 t (2 * k) (vs (hx (zs.take k))) ∧ Below w.heap.size w wr) (fun _ i _ => len - (intOf i).toNat)
    case atStart => exact ⟨0, Nat.zero_le _, rfl, World.ownsRow_nil _ _ _ _, Below.refl _ _⟩
    case round =>
      obtain ⟨k, hk, rfl, hown, hbel⟩ := hrel
      by_cases hlt : k < len
      · have hbw := HBL.out (by omega)
        have hc : wr.cell? ⟨b, off + k, none⟩ = some (.int .u8 (zs.getD k 0)) := by rw [hbel.cell hbw]; exact H1.out k hlt
        have hb := HZ.out.get k
        have hsn : hx (zs.take (k + 1)) = hx (zs.take k) ++ [dg (zs.getD k 0 / 16), dg (zs.getD k 0 % 16)] := by rw [HS.out k hlt, hx_append]; rfl
        have hbd := own_block hown
        have hsz := hbel.size
        generalize zs.getD k 0 = z at *
        obtain ⟨hb1, hb2⟩ := hb
        have e1 : z.tdiv 16 = z / 16 := Int.tdiv_eq_ediv_of_nonneg hb1
        have e2 : z.tmod 16 = z % 16 := Int.tmod_eq_emod_of_nonneg hb1
        have e3 : IntKind.u8.wrap (z / 16) = z / 16 := by rw [IntKind.wrap_u8']; omega
        have d1 := fun W => digit (z / 16) (by omega) (by omega) W
        have d2 := fun W => digit (z % 16) (by omega) (by omega) W
        generalize dg (z / 16) = x1 at *
        generalize dg (z % 16) = x2 at *
        have hk0 : (0 : Int) ≤ (k : Int) := Int.natCast_nonneg _
        have hk1 : (k : Int) < (len : Int) := by omega
        have HSN := TW.hide hsn
        have HBD := TW.hide hbd
        have HOW := TW.hide hown
        have HBE := TW.hide hbel
        clear hsn hbd hown hbel
        have hne : u3.ownBlock ≠ some b := fun h => by have := HBD.out b h; omega
        have H63 : Hid (2 * k + 2 ≤ maxLen) := by show 2 * k + 2 ≤ maxLen; unfold maxLen; omega
        have H47 : Hid ((2 * k + 2) * 1 ≤ 140737488355328) := by show (2 * k + 2) * 1 ≤ 140737488355328; omega
        go_wp2_with fail
        go_region_held3 (fun w' => w'.cell? ⟨b, off + k, none⟩ = some (.int .u8 z))
          (first | go_keep | (rw [hgrow.cell_far _ (by simp; omega) (Ne.symm hne)]; assumption))
          ((refine step_append_lies _ (by rfl) _ _ _ (by rfl) w.heap.size 5 i0 _ 1 1 Tryd.underlying24 hi hz0 hz1 hz2 rfl (by omega) u3 (2 * k) (vs (hx (zs.take k))) (by rfl) ((HOW.out.alloc _).drew) ⟨wr.heap.size, 0, none⟩ 2 2 [.int .u8 x1, .int .u8 x2] (by rfl) (by rfl) (World.news_of_block (cs := #[.int .u8 x1, .int .u8 x2]) (t := 5) (fr := (0, 0)) (heap_alloc_new wr _)) (by simp [Value.oneCell']) (by omega) H63.out H47.out (by simp; omega) (wr.heap.size + 1) (by simp) ?_; intro gg cap' w2 hown1 hgrow hat hlt2))
        all_goals
          have hB2 : Below w.heap.size w w2 := ((HBE.out.alloc hsz _).drew).grown hgrow (by simp; omega) HBD.out
          have K1 := TW.hide hown1
          have K2 := TW.hide hB2
          clear hown1 hgrow hat hB2
          go_wp2
          go_roundw
          case rel => exact ⟨k + 1, by omega, by go_num, by rw [HSN.out, vs_append]; exact K1.out, K2.out⟩
          case measure => simp [intOf]; omega
      · obtain rfl : k = len := by omega
        rw [List.take_of_length_le (by rw [HN.out]; omega)] at hown
        have hcv := conv_own hown (by rw [hx_length, HN.out])
        have HBE := TW.hide hbel
        clear hown hbel
        go_wp2
        go_ret
        exact ⟨rfl, HBE.out⟩
end LW
end Go.Proofs.YteakoajkmcbilabDoor
