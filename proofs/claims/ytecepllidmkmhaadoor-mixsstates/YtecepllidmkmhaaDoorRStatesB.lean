/-
  What the document's States gives.
-/
import Derived.Test.YtecepllidmkmhaaDoorStatesB
import Derived.Test.YtecepllidmkmhaaDoorRRounds
namespace Go.Proofs.YtecepllidmkmhaaDoor
open Go.RowKit
set_option linter.unusedVariables false
set_option linter.unusedSimpArgs false
namespace MX
open Turn
attribute [local go_sem ↓] Go.wp_at_zero Go.wp_at_succ
set_option maxRecDepth 100000 in
set_option maxHeartbeats 4000000 in
theorem rstates (hs ms : List Int) (n : Int) (la no : Bool) (w : World) (hl : hs.length = 8) (hm : ms.length = 16) (hw : Ws hs) (hM : Ws ms) (wn : 0 ≤ n) (wn' : n < 18446744073709551616) :
    Calls Tryd.prog 31 #[.agg (K .u32 hs), .agg (K .u32 ms), .int .u64 n, .bool la, .bool no] w fun e w' => ∃ v, e = .returned v ∧ w'.ownsRow w.heap.size 26 16 v 11 (X (statesL (beginL hs n la no) ms 11)) ∧ Below w.heap.size w w' := by
  obtain ⟨i0, hi, hz0, hz1, hz2⟩ := info_parts infoS
  have hb := (((Below.refl w.heap.size w).alloc (Nat.le_refl _) (.cells (K .u32 hs) 24)).alloc (by simp; try omega) (.cells (K .u32 ms) 26))
  have n0 := (blk_alloc (o' := .cells (K .u32 ms) 26) (heap_new w (.cells (K .u32 hs) 24)))
  have n1 := (heap_new (w.alloc (.cells (K .u32 hs) 24)) (.cells (K .u32 ms) 26))
  rw [show (w.alloc (.cells (K .u32 hs) 24)).heap.size = w.heap.size + 1 by simp] at n1
  have i8 := info8 hs hl
  have iv := info16 (beginL hs n la no) (beginL_length hs n la no hl)
  have im := info16 ms hm
  have ov := size16 (List.replicate 16 0) (beginL hs n la no) rfl (beginL_length hs n la no hl)
  have HL := TW.hide hl
  have HM := TW.hide hm
  have HW := TW.hide hw
  have HMW := TW.hide hM
  have I8 := TW.hide i8
  have IV := TW.hide iv
  have IM := TW.hide im
  have OV := TW.hide ov
  clear hl hm hw hM i8 iv im ov
  go_enter Tryd.func31, Tryd.ntmps31
  refine wp_seq_k fun K hK => ?_
  have HK := TW.hide hK
  clear hK
  go_wp2
  refine HK.out _ _ ?_
  clear HK K
  change Code.wp _ _ _ _ ((w.alloc (.cells (K .u32 hs) 24)).alloc (.cells (K .u32 ms) 26))
  generalize hWW : (w.alloc (.cells (K .u32 hs) 24)).alloc (.cells (K .u32 ms) 26) = W at hb n0 n1 ⊢
  have hW : W.heap.size = w.heap.size + 1 + 1 := by rw [← hWW]; simp
  clear hWW
  generalize hB : w.heap.size = B at *
  have N0 := TW.hide n0
  have N1 := TW.hide n1
  have NB := TW.hide hb
  clear n0 n1 hb
  clear hW
  refine wp_seq_k fun KK hK => ?_
  have HK := TW.hide hK
  clear hK
  go_wp2_with (first | (refine wpList_load_row (by rfl) 24 _ (by rfl) (B) (by rfl) 24 (K .u32 hs) (0, 0) _ N0.out Tryd.underlying24 rfl I8.out ?_))
  refine (rbegin hs n la no _ HL.out HW.out wn wn').mono ?_
  rintro e w1 ⟨rfl, hb1⟩
  have N0' := TW.hide (blk_keep N0.out hb1)
  have N1' := TW.hide (blk_keep N1.out hb1)
  have NB' : Hid (Below B w w1) := below_row NB.out hb1 (le_of_below NB.out (by omega))
  clear hb1
  clear N0 N1 NB
  have N0 := N0'
  have N1 := N1'
  have NB := NB'
  clear N0' N1' NB'
  have hl_g_N0 := blk_lt N0.out
  have hl_g_N1 := blk_lt N1.out
  go_wp2_with (first | (refine wpList_store_row (by rfl) 26 _ _ (by rfl) w1.heap.size (K .u32 (beginL hs n la no)) (by rfl) (by rfl) 26 _ (heap_new w1 _) IV.out OV.out (K_one _ _) ?_))
  have n1 := setRow_heap _ _ _ (K .u32 (beginL hs n la no)) _ _ (heap_new w1 (.cells #[.int .u32 0, .int .u32 0, .int .u32 0, .int .u32 0, .int .u32 0, .int .u32 0, .int .u32 0, .int .u32 0, .int .u32 0, .int .u32 0, .int .u32 0, .int .u32 0, .int .u32 0, .int .u32 0, .int .u32 0, .int .u32 0] 26))
  have bx1 := below_setRow (cs := (K .u32 (beginL hs n la no))) ((Below.refl w1.heap.size w1).alloc (Nat.le_refl _) (.cells #[.int .u32 0, .int .u32 0, .int .u32 0, .int .u32 0, .int .u32 0, .int .u32 0, .int .u32 0, .int .u32 0, .int .u32 0, .int .u32 0, .int .u32 0, .int .u32 0, .int .u32 0, .int .u32 0, .int .u32 0, .int .u32 0] 26)) (g := w1.heap.size) (Nat.le_refl _)
  generalize (w1.alloc (.cells #[.int .u32 0, .int .u32 0, .int .u32 0, .int .u32 0, .int .u32 0, .int .u32 0, .int .u32 0, .int .u32 0, .int .u32 0, .int .u32 0, .int .u32 0, .int .u32 0, .int .u32 0, .int .u32 0, .int .u32 0, .int .u32 0] 26)).setRow w1.heap.size (K .u32 (beginL hs n la no)) = X1 at n1 bx1 ⊢
  have N0' := TW.hide (blk_keep N0.out bx1)
  have N1' := TW.hide (blk_keep N1.out bx1)
  have NB' : Hid (Below B w X1) := below_row NB.out bx1 (le_of_below NB.out (by omega))
  have R1 := TW.hide n1
  clear n1 bx1
  clear N0 N1 NB
  have N0 := N0'
  have N1 := N1'
  have NB := NB'
  clear N0' N1' NB'
  generalize w1.heap.size = g at *
  refine HK.out _ _ ?_
  clear HK KK
  have HVL := TW.hide (beginL_length hs n la no HL.out)
  have HVW := TW.hide (beginL_Ws la no HW.out wn wn')
  have HS1 : Hid (statesL (beginL hs n la no) ms 1 = (beginL hs n la no)) := statesL_one _ _
  have hg1 : g + 1 ≤ X1.heap.size := blk_lt R1.out
  have hgb : B + 1 < g := hl_g_N1
  refine wp_seq_k fun KK hK => ?_
  have HK := TW.hide hK
  clear hK
  have hvl : (K .u32 (beginL hs n la no)).size = 16 := by rw [K_size]; exact HVL.out
  have HVS := TW.hide hvl
  clear hvl
  generalize (beginL hs n la no) = V at *
  go_wp2_with (first | (refine wpList_load_row (by rfl) 26 _ (by rfl) (g) (by rfl) 26 (K .u32 V) (0, 0) _ R1.out Tryd.underlying26 rfl IV.out ?_) | (refine wpList_buildOne (by rfl) 53 26 _ (by rfl) (K .u32 V) 16 (by rfl) HVS.out (by decide) (by decide) Tryd.underlying53 sizeS zeroS ?_))
  refine HK.out _ _ ?_
  clear HK KK
  have MO2 : Hid ((X1.alloc (.cells (K .u32 V) 26)).ownsRow (g + 1) 26 16 (.slice (some ⟨X1.heap.size, 0, none⟩) 1 1) 1 (X (statesL V ms 1))) := by
    refine ⟨by rw [X_length, HS1.out, HVL.out], .inr ⟨X1.heap.size, 1, K .u32 V, rfl, hg1, heap_new _ _, by omega, by unfold maxLen; omega, by rw [HVS.out], ?_⟩⟩
    rw [HS1.out, K_toList, List.take_of_length_le (by rw [List.length_map, HVL.out]; omega)]
    rfl
  have NB2 : Hid (Below B w (X1.alloc (.cells (K .u32 V) 26))) := NB.out.alloc (by have := NB.out.size; omega) _
  have N12 : Hid ((X1.alloc (.cells (K .u32 V) 26)).heap[B + 1]? = some (.cells (K .u32 ms) 26 (0, 0))) := blk_alloc N1.out
  have R12 : Hid ((X1.alloc (.cells (K .u32 V) 26)).heap[g]? = some (.cells (K .u32 V) 26 (0, 0))) := blk_alloc R1.out
  clear N0 N1 R1 NB
  generalize Value.slice (some ⟨X1.heap.size, 0, none⟩) 1 1 = v' at *
  generalize X1.alloc (.cells (K .u32 V) 26) = w2 at *
  have N1 := N12
  have R1 := R12
  have NB := NB2
  have hs2 : g + 1 ≤ w2.heap.size := blk_lt R1.out
  clear N12 R12 NB2 hg1
  clear IV OV HVS HS1
  go_wp2
  go_loopw [12, 13] (fun l i wr => ∃ k : Nat, k ≤ 10 ∧ i = .int .i64 k ∧ wr.heap[B + 1]? = some (.cells (K .u32 ms) 26 (0, 0)) ∧ wr.heap[g]? = some (.cells (K .u32 (roundsL V ms k)) 26 (0, 0)) ∧ wr.ownsRow (g + 1) 26 16 l (k + 1) (X (statesL V ms (k + 1))) ∧ Below B w wr) (fun _ i _ => 10 - (intOf i).toNat)
  case atStart => exact ⟨0, Nat.zero_le _, rfl, N1.out, R1.out, MO2.out, NB.out⟩
  case round =>
    obtain ⟨k, hk, rfl, n1, nv, no', hb⟩ := hrel
    clear N1 R1 NB MO2 hs2
    have hul : (roundsL V ms k).length = 16 := by rw [roundsL_length]; exact HVL.out
    have huw : Ws (roundsL V ms k) := roundsL_Ws ms k HVW.out
    by_cases hlt : k < 10
    · have hst : forthL (roundsL V ms k) ms k = roundsL V ms (k + 1) := rfl
      generalize roundsL V ms k = us at *
      have HLU := TW.hide hul
      have HUW := TW.hide huw
      have hcall := rroundOk us ms k wr HLU.out HM.out HUW.out HMW.out hlt
      have hl2 : (forthL us ms k).length = 16 := by rw [forthL_length]; exact hul
      generalize forthL us ms k = us2 at *
      have HC := TW.hide hcall
      have HST := TW.hide hst
      have HL2 := TW.hide hl2
      have IU := TW.hide (info16 us hul)
      have IU2 := TW.hide (info16 us2 hl2)
      have OU := TW.hide (size16 us us2 hul hl2)
      have hk2 : (K .u32 us2).size = 16 := by rw [K_size]; exact hl2
      have HK2 := TW.hide hk2
      have G1 := TW.hide n1
      have GV := TW.hide nv
      have GO := TW.hide no'
      have GB := TW.hide hb
      clear n1 nv no' hb
      clear hcall hst hul huw hl2 hk2
      have k1 : (k : Int) < 10 := by omega
      go_wp2_with (first | (refine wpList_load_row (by rfl) 26 _ (by rfl) (g) (by rfl) 26 (K .u32 us) (0, 0) _ GV.out Tryd.underlying26 rfl IU.out ?_) | (refine wpList_load_row (by rfl) 26 _ (by rfl) (B + 1) (by rfl) 26 (K .u32 ms) (0, 0) _ G1.out Tryd.underlying26 rfl IM.out ?_))
      refine HC.out.mono ?_
      rintro e w2 ⟨rfl, hb2⟩
      have M1 := TW.hide (blk_keep G1.out hb2)
      have MV := TW.hide (blk_keep GV.out hb2)
      have MO := TW.hide (own_below16 GO.out hb2)
      have MB : Hid (Below B w w2) := below_row GB.out hb2 (by have := blk_lt G1.out; omega)
      clear hb2 G1 GV GO GB HC
      have hy1 : Hid ((w2.setRow g (K .u32 us2)).heap[B + 1]? = some (.cells (K .u32 ms) 26 (0, 0))) := by
        show _ = _
        rw [setRow_other _ _ _ _ (by omega)]; exact M1.out
      have hyv : Hid ((w2.setRow g (K .u32 us2)).heap[g]? = some (.cells (K .u32 us2) 26 (0, 0))) := setRow_heap _ _ _ _ _ _ MV.out
      have hyo := TW.hide (own_other (cs := K .u32 us2) MO.out (Nat.lt_succ_self g))
      have hyb : Hid (Below B w (w2.setRow g (K .u32 us2))) := below_setRow MB.out (by omega)
      clear M1 MO MB
      have hgy : g < (w2.setRow g (K .u32 us2)).heap.size := blk_lt hyv.out
      have hgy2 : g < w2.heap.size := blk_lt MV.out
      go_wp2_with (first | (refine wpList_store_row (by rfl) 26 _ _ (by rfl) (g) (K .u32 us2) (by rfl) (by rfl) 26 _ MV.out IU2.out OU.out (K_one _ _) ?_) | (refine wpList_load_row (by rfl) 26 _ (by rfl) (g) (by rfl) 26 (K .u32 us2) (0, 0) _ hyv.out Tryd.underlying26 rfl IU2.out ?_) | (refine wpList_buildOne (by rfl) 53 26 _ (by rfl) (K .u32 us2) 16 (by rfl) HK2.out (by decide) (by decide) Tryd.underlying53 sizeS zeroS ?_) | (at_builtin; refine wpList_append_own _ rfl _ _ 53 rfl (g + 1) 26 i0 (.agg (K .u32 (List.replicate 16 0))) 16 64 Tryd.underlying53 hi hz0 hz1 hz2 rfl (by decide) _ (k + 1) _ rfl (own_below16 hyo.out ((Below.refl _ _).alloc (Nat.le_refl _) _)) ⟨_, 0, none⟩ 1 1 (X us2) rfl ?c0 ?c1 ?c2 ?c3 ?c4 ?c5 ?_))
      case c0 => rw [X_length, HL2.out]
      case c1 => exact K_new _ _ _
      case c2 => exact X_one _
      case c3 => unfold maxLen; omega
      case c4 => omega
      case c5 => simp; omega
      intro v2 w3 hown' hgrow' _
      have hne := own_blockG hyo.out
      have Z1 := TW.hide (grown_keep (blk_alloc hy1.out) hgrow' (fun h => by have := hne _ h; omega))
      have ZV := TW.hide (grown_keep (blk_alloc hyv.out) hgrow' (fun h => by have := hne _ h; omega))
      have ZO := TW.hide (own_more HST.out hown')
      have ZB : Hid (Below B w w3) := (hyb.out.alloc (by have := hyb.out.size; omega) _).grown hgrow' (by simp; omega) (fun k hk => by have := hne k hk; omega)
      clear hown' hgrow' hne hy1 hyv hyo hyb MV
      go_wp2
      go_roundw
      case rel =>
        refine ⟨k + 1, by omega, by go_num, Z1.out, ?_, ZO.out, ZB.out⟩
        rw [← HST.out]; exact ZV.out
      case measure => simp [intOf]; omega
    · obtain rfl : k = 10 := by omega
      have GO := TW.hide no'
      have GB := TW.hide hb
      clear n1 nv no' hb
      go_wp2
      go_ret
      exact ⟨_, rfl, own_base GO.out (by omega), GB.out⟩
end MX
end Go.Proofs.YtecepllidmkmhaaDoor
