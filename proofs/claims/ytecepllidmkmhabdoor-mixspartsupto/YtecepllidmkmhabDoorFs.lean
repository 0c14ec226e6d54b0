/-
  What the calls F (the program's and the document's) give, for all chains, blocks, counts and flags.
-/
import Derived.Test.YtecepllidmkmhabDoorEnds
import Derived.Test.YtecepllidmkmhabDoorRounds
import Derived.Test.YtecepllidmkmhabDoorRRounds
import Derived.Test.YtecepllidmkmhabDoorStructs
namespace Go.Proofs.YtecepllidmkmhabDoor
open Go.RowKit
set_option linter.unusedVariables false
set_option linter.unusedSimpArgs false
namespace MX
open Turn
attribute [local go_sem ↓] Go.wp_at_zero Go.wp_at_succ
set_option maxRecDepth 100000 in
set_option maxHeartbeats 4000000 in
theorem fOk (hs ms : List Int) (n : Int) (la no : Bool) (w : World) (ti : Tab w 0 .u32 ivL) (to : Tab w 1 .u8 ordL) (hl : hs.length = 8) (hm : ms.length = 16) (hw : Ws hs) (hM : Ws ms) (wn : 0 ≤ n) (wn' : n < 18446744073709551616) :
    Calls Tryd.prog 20 #[.agg (K .u32 hs), .agg (K .u32 ms), .int .u64 n, .bool la, .bool no] w fun e w' => e = .returned (.agg (K .u32 (fL hs ms n la no))) ∧ Below w.heap.size w w' := by
  have hb := ((((Below.refl w.heap.size w).alloc (Nat.le_refl _) (.cells (K .u32 hs) 23)).alloc (by simp; try omega) (.cells (K .u32 ms) 34)).alloc (by simp; try omega) (.cells (K .u32 (List.replicate 8 0)) 23))
  have n0 := (blk_alloc (o' := .cells (K .u32 (List.replicate 8 0)) 23) (blk_alloc (o' := .cells (K .u32 ms) 34) (heap_new w (.cells (K .u32 hs) 23))))
  have n1 := (blk_alloc (o' := .cells (K .u32 (List.replicate 8 0)) 23) (heap_new (w.alloc (.cells (K .u32 hs) 23)) (.cells (K .u32 ms) 34)))
  rw [show (w.alloc (.cells (K .u32 hs) 23)).heap.size = w.heap.size + 1 by simp] at n1
  have n2 := (heap_new ((w.alloc (.cells (K .u32 hs) 23)).alloc (.cells (K .u32 ms) 34)) (.cells (K .u32 (List.replicate 8 0)) 23))
  rw [show ((w.alloc (.cells (K .u32 hs) 23)).alloc (.cells (K .u32 ms) 34)).heap.size = w.heap.size + 1 + 1 by simp] at n2
  have i8 := info8 hs hl
  have iv := info16 (beginL hs n la no) (beginL_length hs n la no hl)
  have im := info16 ms hm
  have ov := size16 (List.replicate 16 0) (beginL hs n la no) rfl (beginL_length hs n la no hl)
  have io := info8 (fL hs ms n la no) (fL_length _ _ _ _ _)
  have oo := size8 (List.replicate 8 0) (fL hs ms n la no) rfl (fL_length _ _ _ _ _)
  have HL := TW.hide hl
  have HM := TW.hide hm
  have HW := TW.hide hw
  have HMW := TW.hide hM
  have I8 := TW.hide i8
  have IV := TW.hide iv
  have IM := TW.hide im
  have OV := TW.hide ov
  have IO := TW.hide io
  have OO := TW.hide oo
  have TI := TW.hide ti
  have TO := TW.hide to
  clear hl hm hw hM i8 iv im ov io oo ti to
  go_enter Tryd.func20, Tryd.ntmps20
  refine wp_seq_k fun K hK => ?_
  have HK := TW.hide hK
  clear hK
  go_wp2
  refine HK.out _ _ ?_
  clear HK K
  change Code.wp _ _ _ _ (((w.alloc (.cells (K .u32 hs) 23)).alloc (.cells (K .u32 ms) 34)).alloc (.cells (K .u32 (List.replicate 8 0)) 23))
  generalize hWW : ((w.alloc (.cells (K .u32 hs) 23)).alloc (.cells (K .u32 ms) 34)).alloc (.cells (K .u32 (List.replicate 8 0)) 23) = W at hb n0 n1 n2 ⊢
  have hW : W.heap.size = w.heap.size + 1 + 1 + 1 := by rw [← hWW]; simp
  clear hWW
  generalize hB : w.heap.size = B at *
  have N0 := TW.hide n0
  have N1 := TW.hide n1
  have N2 := TW.hide n2
  have NB := TW.hide hb
  clear n0 n1 n2 hb
  clear hW
  refine wp_seq_k fun KK hK => ?_
  have HK := TW.hide hK
  clear hK
  go_wp2_with (first | (refine wpList_load_row (by rfl) 23 _ (by rfl) (B) (by rfl) 23 (K .u32 hs) (0, 0) _ N0.out Tryd.underlying23 rfl I8.out ?_))
  refine (begin_ hs n la no _ (TI.out.below (hB ▸ NB.out)) HL.out HW.out wn wn').mono ?_
  rintro e w1 ⟨rfl, hb1⟩
  have N0' := TW.hide (blk_keep N0.out hb1)
  have N1' := TW.hide (blk_keep N1.out hb1)
  have N2' := TW.hide (blk_keep N2.out hb1)
  have NB' : Hid (Below B w w1) := below_row NB.out hb1 (le_of_below NB.out (by omega))
  clear hb1
  clear N0 N1 N2 NB
  have N0 := N0'
  have N1 := N1'
  have N2 := N2'
  have NB := NB'
  clear N0' N1' N2' NB'
  have hl_g_N0 := blk_lt N0.out
  have hl_g_N1 := blk_lt N1.out
  have hl_g_N2 := blk_lt N2.out
  go_wp2_with (first | (refine wpList_store_row (by rfl) 34 _ _ (by rfl) w1.heap.size (K .u32 (beginL hs n la no)) (by rfl) (by rfl) 34 _ (heap_new w1 _) IV.out OV.out (K_one _ _) ?_))
  have n1 := setRow_heap _ _ _ (K .u32 (beginL hs n la no)) _ _ (heap_new w1 (.cells #[.int .u32 0, .int .u32 0, .int .u32 0, .int .u32 0, .int .u32 0, .int .u32 0, .int .u32 0, .int .u32 0, .int .u32 0, .int .u32 0, .int .u32 0, .int .u32 0, .int .u32 0, .int .u32 0, .int .u32 0, .int .u32 0] 34))
  have bx1 := below_setRow (cs := (K .u32 (beginL hs n la no))) ((Below.refl w1.heap.size w1).alloc (Nat.le_refl _) (.cells #[.int .u32 0, .int .u32 0, .int .u32 0, .int .u32 0, .int .u32 0, .int .u32 0, .int .u32 0, .int .u32 0, .int .u32 0, .int .u32 0, .int .u32 0, .int .u32 0, .int .u32 0, .int .u32 0, .int .u32 0, .int .u32 0] 34)) (g := w1.heap.size) (Nat.le_refl _)
  generalize (w1.alloc (.cells #[.int .u32 0, .int .u32 0, .int .u32 0, .int .u32 0, .int .u32 0, .int .u32 0, .int .u32 0, .int .u32 0, .int .u32 0, .int .u32 0, .int .u32 0, .int .u32 0, .int .u32 0, .int .u32 0, .int .u32 0, .int .u32 0] 34)).setRow w1.heap.size (K .u32 (beginL hs n la no)) = X1 at n1 bx1 ⊢
  have N0' := TW.hide (blk_keep N0.out bx1)
  have N1' := TW.hide (blk_keep N1.out bx1)
  have N2' := TW.hide (blk_keep N2.out bx1)
  have NB' : Hid (Below B w X1) := below_row NB.out bx1 (le_of_below NB.out (by omega))
  have R1 := TW.hide n1
  clear n1 bx1
  clear N0 N1 N2 NB
  have N0 := N0'
  have N1 := N1'
  have N2 := N2'
  have NB := NB'
  clear N0' N1' N2' NB'
  generalize w1.heap.size = g at *
  refine HK.out _ _ ?_
  clear HK KK
  have HVL := TW.hide (beginL_length hs n la no HL.out)
  have HVW := TW.hide (beginL_Ws la no HW.out wn wn')
  clear IV OV
  go_wp2
  go_loopw [18] (fun i wr => ∃ k : Nat, k ≤ 10 ∧ i = .int .i64 k ∧ wr.heap[B]? = some (.cells (K .u32 hs) 23 (0, 0)) ∧ wr.heap[B + 1]? = some (.cells (K .u32 ms) 34 (0, 0)) ∧ wr.heap[B + 1 + 1]? = some (.cells (K .u32 (List.replicate 8 0)) 23 (0, 0)) ∧ wr.heap[g]? = some (.cells (K .u32 (roundsL (beginL hs n la no) ms k)) 34 (0, 0)) ∧ Below B w wr) (fun i _ => 10 - (intOf i).toNat)
  case atStart => exact ⟨0, Nat.zero_le _, rfl, N0.out, N1.out, N2.out, R1.out, NB.out⟩
  case round =>
    rename_i Q1 K1 a1
    obtain ⟨k, hk, rfl, n0, n1, nz, nv, hb⟩ := hrel
    clear N0 N1 N2 R1 NB X1
    have hul : (roundsL (beginL hs n la no) ms k).length = 16 := by rw [roundsL_length]; exact HVL.out
    have huw : Ws (roundsL (beginL hs n la no) ms k) := roundsL_Ws ms k HVW.out
    by_cases hlt : k < 10
    · have hst : roundsL (beginL hs n la no) ms (k + 1) = forthL (roundsL (beginL hs n la no) ms k) ms k := rfl
      generalize roundsL (beginL hs n la no) ms k = us at *
      have HLU := TW.hide hul
      have HUW := TW.hide huw
      have hcall := forth us ms k wr HLU.out HM.out HUW.out HMW.out hlt (TO.out.below (hB ▸ hb))
      have hl2 : (forthL us ms k).length = 16 := by rw [forthL_length]; exact hul
      generalize forthL us ms k = us2 at *
      have HC := TW.hide hcall
      have HST := TW.hide hst
      have IU := TW.hide (info16 us hul)
      have IU2 := TW.hide (info16 us2 hl2)
      have OU := TW.hide (size16 us us2 hul hl2)
      have G0 := TW.hide n0
      have G1 := TW.hide n1
      have GZ := TW.hide nz
      have GV := TW.hide nv
      have GB := TW.hide hb
      clear n0 n1 nz nv hb
      clear hcall hst hul huw hl2
      have k1 : (k : Int) < 10 := by omega
      go_wp2_with (first | (refine wpList_load_row (by rfl) 34 _ (by rfl) (g) (by rfl) 34 (K .u32 us) (0, 0) _ GV.out Tryd.underlying34 rfl IU.out ?_) | (refine wpList_load_row (by rfl) 34 _ (by rfl) (B + 1) (by rfl) 34 (K .u32 ms) (0, 0) _ G1.out Tryd.underlying34 rfl IM.out ?_))
      refine HC.out.mono ?_
      rintro e w2 ⟨rfl, hb2⟩
      have M0 := TW.hide (blk_keep G0.out hb2)
      have M1 := TW.hide (blk_keep G1.out hb2)
      have MZ := TW.hide (blk_keep GZ.out hb2)
      have MV := TW.hide (blk_keep GV.out hb2)
      have MB : Hid (Below B w w2) := below_row GB.out hb2 (by have := blk_lt G0.out; omega)
      clear hb2 G0 G1 GZ GV GB HC
      go_wp2_with (refine wpList_store_row (by rfl) 34 _ _ (by rfl) (g) (K .u32 us2) (by rfl) (by rfl) 34 _ MV.out IU2.out OU.out (K_one _ _) ?_)
      go_roundw
      case rel =>
        refine ⟨k + 1, by omega, by go_num, ?_, ?_, ?_, ?_, below_setRow MB.out (by omega)⟩
        · rw [setRow_other _ _ _ _ (by omega)]; exact M0.out
        · rw [setRow_other _ _ _ _ (by omega)]; exact M1.out
        · rw [setRow_other _ _ _ _ (by omega)]; exact MZ.out
        · rw [HST.out]; exact setRow_heap _ _ _ _ _ _ MV.out
      case measure => simp [intOf]; omega
    · obtain rfl : k = 10 := by omega
      have HA := TW.hide a1
      clear a1
      have HFL : Hid (fL hs ms n la no = overL hs (roundsL (beginL hs n la no) ms 10)) := rfl
      have hend := end_ hs (roundsL (beginL hs n la no) ms 10) wr HL.out hul HW.out huw
      rw [← HFL.out] at hend
      have IVV := TW.hide (info16 (roundsL (beginL hs n la no) ms 10) hul)
      generalize roundsL (beginL hs n la no) ms 10 = V at *
      have HE := TW.hide hend
      clear hul huw hend
      have G0 := TW.hide n0
      have GZ := TW.hide nz
      have GV := TW.hide nv
      have GB := TW.hide hb
      clear n0 nz nv hb
      clear n1
      go_wp2
      refine HA.out _ _ ?_
      clear HA
      generalize hfl : fL hs ms n la no = fl at *
      have HFF := TW.hide hfl
      clear hfl
      go_wp2_with (first | (refine wpList_load_row (by rfl) 23 _ (by rfl) (B) (by rfl) 23 (K .u32 hs) (0, 0) _ G0.out Tryd.underlying23 rfl I8.out ?_) | (refine wpList_load_row (by rfl) 34 _ (by rfl) (g) (by rfl) 34 (K .u32 V) (0, 0) _ GV.out Tryd.underlying34 rfl IVV.out ?_))
      refine HE.out.mono ?_
      rintro e w2 ⟨rfl, hb2⟩
      have MZ := TW.hide (blk_keep GZ.out hb2)
      have MB : Hid (Below B w w2) := below_row GB.out hb2 (by have := blk_lt G0.out; omega)
      clear hb2 G0 GZ GV GB HE
      go_wp2_with (refine wpList_store_row (by rfl) 23 _ _ (by rfl) (B + 1 + 1) (K .u32 fl) (by rfl) (by rfl) 23 _ MZ.out IO.out OO.out (K_one _ _) ?_)
      refine bodyPost_ret (v := .agg (K .u32 fl)) (results_cell_row (P := Tryd.prog) Tryd.results20 _ _ (B + 1 + 1) 23 (K .u32 fl) (0, 0) _ (by rfl) (setRow_heap _ _ _ _ _ _ MZ.out) Tryd.underlying23 rfl IO.out) rfl ?_
      exact ⟨by rw [HFF.out], below_setRow MB.out (by omega)⟩
set_option maxRecDepth 100000 in
set_option maxHeartbeats 4000000 in
theorem rfOk (hs ms : List Int) (n : Int) (la no : Bool) (w : World) (hl : hs.length = 8) (hm : ms.length = 16) (hw : Ws hs) (hM : Ws ms) (wn : 0 ≤ n) (wn' : n < 18446744073709551616) :
    Calls Tryd.prog 24 #[.agg (K .u32 hs), .agg (K .u32 ms), .int .u64 n, .bool la, .bool no] w fun e w' => e = .returned (.agg (K .u32 (fL hs ms n la no))) ∧ Below w.heap.size w w' := by
  have hb := ((((Below.refl w.heap.size w).alloc (Nat.le_refl _) (.cells (K .u32 hs) 23)).alloc (by simp; try omega) (.cells (K .u32 ms) 34)).alloc (by simp; try omega) (.cells (K .u32 (List.replicate 8 0)) 23))
  have n0 := (blk_alloc (o' := .cells (K .u32 (List.replicate 8 0)) 23) (blk_alloc (o' := .cells (K .u32 ms) 34) (heap_new w (.cells (K .u32 hs) 23))))
  have n1 := (blk_alloc (o' := .cells (K .u32 (List.replicate 8 0)) 23) (heap_new (w.alloc (.cells (K .u32 hs) 23)) (.cells (K .u32 ms) 34)))
  rw [show (w.alloc (.cells (K .u32 hs) 23)).heap.size = w.heap.size + 1 by simp] at n1
  have n2 := (heap_new ((w.alloc (.cells (K .u32 hs) 23)).alloc (.cells (K .u32 ms) 34)) (.cells (K .u32 (List.replicate 8 0)) 23))
  rw [show ((w.alloc (.cells (K .u32 hs) 23)).alloc (.cells (K .u32 ms) 34)).heap.size = w.heap.size + 1 + 1 by simp] at n2
  have i8 := info8 hs hl
  have iv := info16 (beginL hs n la no) (beginL_length hs n la no hl)
  have im := info16 ms hm
  have ov := size16 (List.replicate 16 0) (beginL hs n la no) rfl (beginL_length hs n la no hl)
  have io := info8 (fL hs ms n la no) (fL_length _ _ _ _ _)
  have oo := size8 (List.replicate 8 0) (fL hs ms n la no) rfl (fL_length _ _ _ _ _)
  have HL := TW.hide hl
  have HM := TW.hide hm
  have HW := TW.hide hw
  have HMW := TW.hide hM
  have I8 := TW.hide i8
  have IV := TW.hide iv
  have IM := TW.hide im
  have OV := TW.hide ov
  have IO := TW.hide io
  have OO := TW.hide oo
  clear hl hm hw hM i8 iv im ov io oo
  go_enter Tryd.func24, Tryd.ntmps24
  refine wp_seq_k fun K hK => ?_
  have HK := TW.hide hK
  clear hK
  go_wp2
  refine HK.out _ _ ?_
  clear HK K
  change Code.wp _ _ _ _ (((w.alloc (.cells (K .u32 hs) 23)).alloc (.cells (K .u32 ms) 34)).alloc (.cells (K .u32 (List.replicate 8 0)) 23))
  generalize hWW : ((w.alloc (.cells (K .u32 hs) 23)).alloc (.cells (K .u32 ms) 34)).alloc (.cells (K .u32 (List.replicate 8 0)) 23) = W at hb n0 n1 n2 ⊢
  have hW : W.heap.size = w.heap.size + 1 + 1 + 1 := by rw [← hWW]; simp
  clear hWW
  generalize hB : w.heap.size = B at *
  have N0 := TW.hide n0
  have N1 := TW.hide n1
  have N2 := TW.hide n2
  have NB := TW.hide hb
  clear n0 n1 n2 hb
  clear hW
  refine wp_seq_k fun KK hK => ?_
  have HK := TW.hide hK
  clear hK
  go_wp2_with (first | (refine wpList_load_row (by rfl) 23 _ (by rfl) (B) (by rfl) 23 (K .u32 hs) (0, 0) _ N0.out Tryd.underlying23 rfl I8.out ?_))
  refine (rbegin hs n la no _ HL.out HW.out wn wn').mono ?_
  rintro e w1 ⟨rfl, hb1⟩
  have N0' := TW.hide (blk_keep N0.out hb1)
  have N1' := TW.hide (blk_keep N1.out hb1)
  have N2' := TW.hide (blk_keep N2.out hb1)
  have NB' : Hid (Below B w w1) := below_row NB.out hb1 (le_of_below NB.out (by omega))
  clear hb1
  clear N0 N1 N2 NB
  have N0 := N0'
  have N1 := N1'
  have N2 := N2'
  have NB := NB'
  clear N0' N1' N2' NB'
  have hl_g_N0 := blk_lt N0.out
  have hl_g_N1 := blk_lt N1.out
  have hl_g_N2 := blk_lt N2.out
  go_wp2_with (first | (refine wpList_store_row (by rfl) 34 _ _ (by rfl) w1.heap.size (K .u32 (beginL hs n la no)) (by rfl) (by rfl) 34 _ (heap_new w1 _) IV.out OV.out (K_one _ _) ?_))
  have n1 := setRow_heap _ _ _ (K .u32 (beginL hs n la no)) _ _ (heap_new w1 (.cells #[.int .u32 0, .int .u32 0, .int .u32 0, .int .u32 0, .int .u32 0, .int .u32 0, .int .u32 0, .int .u32 0, .int .u32 0, .int .u32 0, .int .u32 0, .int .u32 0, .int .u32 0, .int .u32 0, .int .u32 0, .int .u32 0] 34))
  have bx1 := below_setRow (cs := (K .u32 (beginL hs n la no))) ((Below.refl w1.heap.size w1).alloc (Nat.le_refl _) (.cells #[.int .u32 0, .int .u32 0, .int .u32 0, .int .u32 0, .int .u32 0, .int .u32 0, .int .u32 0, .int .u32 0, .int .u32 0, .int .u32 0, .int .u32 0, .int .u32 0, .int .u32 0, .int .u32 0, .int .u32 0, .int .u32 0] 34)) (g := w1.heap.size) (Nat.le_refl _)
  generalize (w1.alloc (.cells #[.int .u32 0, .int .u32 0, .int .u32 0, .int .u32 0, .int .u32 0, .int .u32 0, .int .u32 0, .int .u32 0, .int .u32 0, .int .u32 0, .int .u32 0, .int .u32 0, .int .u32 0, .int .u32 0, .int .u32 0, .int .u32 0] 34)).setRow w1.heap.size (K .u32 (beginL hs n la no)) = X1 at n1 bx1 ⊢
  have N0' := TW.hide (blk_keep N0.out bx1)
  have N1' := TW.hide (blk_keep N1.out bx1)
  have N2' := TW.hide (blk_keep N2.out bx1)
  have NB' : Hid (Below B w X1) := below_row NB.out bx1 (le_of_below NB.out (by omega))
  have R1 := TW.hide n1
  clear n1 bx1
  clear N0 N1 N2 NB
  have N0 := N0'
  have N1 := N1'
  have N2 := N2'
  have NB := NB'
  clear N0' N1' N2' NB'
  generalize w1.heap.size = g at *
  refine HK.out _ _ ?_
  clear HK KK
  have HVL := TW.hide (beginL_length hs n la no HL.out)
  have HVW := TW.hide (beginL_Ws la no HW.out wn wn')
  clear IV OV
  go_wp2
  go_loopw [12] (fun i wr => ∃ k : Nat, k ≤ 10 ∧ i = .int .i64 k ∧ wr.heap[B]? = some (.cells (K .u32 hs) 23 (0, 0)) ∧ wr.heap[B + 1]? = some (.cells (K .u32 ms) 34 (0, 0)) ∧ wr.heap[B + 1 + 1]? = some (.cells (K .u32 (List.replicate 8 0)) 23 (0, 0)) ∧ wr.heap[g]? = some (.cells (K .u32 (roundsL (beginL hs n la no) ms k)) 34 (0, 0)) ∧ Below B w wr) (fun i _ => 10 - (intOf i).toNat)
  case atStart => exact ⟨0, Nat.zero_le _, rfl, N0.out, N1.out, N2.out, R1.out, NB.out⟩
  case round =>
    rename_i Q1 K1 a1
    obtain ⟨k, hk, rfl, n0, n1, nz, nv, hb⟩ := hrel
    clear N0 N1 N2 R1 NB X1
    have hul : (roundsL (beginL hs n la no) ms k).length = 16 := by rw [roundsL_length]; exact HVL.out
    have huw : Ws (roundsL (beginL hs n la no) ms k) := roundsL_Ws ms k HVW.out
    by_cases hlt : k < 10
    · have hst : roundsL (beginL hs n la no) ms (k + 1) = forthL (roundsL (beginL hs n la no) ms k) ms k := rfl
      generalize roundsL (beginL hs n la no) ms k = us at *
      have HLU := TW.hide hul
      have HUW := TW.hide huw
      have hcall := rroundOk us ms k wr HLU.out HM.out HUW.out HMW.out hlt
      have hl2 : (forthL us ms k).length = 16 := by rw [forthL_length]; exact hul
      generalize forthL us ms k = us2 at *
      have HC := TW.hide hcall
      have HST := TW.hide hst
      have IU := TW.hide (info16 us hul)
      have IU2 := TW.hide (info16 us2 hl2)
      have OU := TW.hide (size16 us us2 hul hl2)
      have G0 := TW.hide n0
      have G1 := TW.hide n1
      have GZ := TW.hide nz
      have GV := TW.hide nv
      have GB := TW.hide hb
      clear n0 n1 nz nv hb
      clear hcall hst hul huw hl2
      have k1 : (k : Int) < 10 := by omega
      go_wp2_with (first | (refine wpList_load_row (by rfl) 34 _ (by rfl) (g) (by rfl) 34 (K .u32 us) (0, 0) _ GV.out Tryd.underlying34 rfl IU.out ?_) | (refine wpList_load_row (by rfl) 34 _ (by rfl) (B + 1) (by rfl) 34 (K .u32 ms) (0, 0) _ G1.out Tryd.underlying34 rfl IM.out ?_))
      refine HC.out.mono ?_
      rintro e w2 ⟨rfl, hb2⟩
      have M0 := TW.hide (blk_keep G0.out hb2)
      have M1 := TW.hide (blk_keep G1.out hb2)
      have MZ := TW.hide (blk_keep GZ.out hb2)
      have MV := TW.hide (blk_keep GV.out hb2)
      have MB : Hid (Below B w w2) := below_row GB.out hb2 (by have := blk_lt G0.out; omega)
      clear hb2 G0 G1 GZ GV GB HC
      go_wp2_with (refine wpList_store_row (by rfl) 34 _ _ (by rfl) (g) (K .u32 us2) (by rfl) (by rfl) 34 _ MV.out IU2.out OU.out (K_one _ _) ?_)
      go_roundw
      case rel =>
        refine ⟨k + 1, by omega, by go_num, ?_, ?_, ?_, ?_, below_setRow MB.out (by omega)⟩
        · rw [setRow_other _ _ _ _ (by omega)]; exact M0.out
        · rw [setRow_other _ _ _ _ (by omega)]; exact M1.out
        · rw [setRow_other _ _ _ _ (by omega)]; exact MZ.out
        · rw [HST.out]; exact setRow_heap _ _ _ _ _ _ MV.out
      case measure => simp [intOf]; omega
    · obtain rfl : k = 10 := by omega
      have HA := TW.hide a1
      clear a1
      have HFL : Hid (fL hs ms n la no = overL hs (roundsL (beginL hs n la no) ms 10)) := rfl
      have hend := rend hs (roundsL (beginL hs n la no) ms 10) wr HL.out hul HW.out huw
      rw [← HFL.out] at hend
      have IVV := TW.hide (info16 (roundsL (beginL hs n la no) ms 10) hul)
      generalize roundsL (beginL hs n la no) ms 10 = V at *
      have HE := TW.hide hend
      clear hul huw hend
      have G0 := TW.hide n0
      have GZ := TW.hide nz
      have GV := TW.hide nv
      have GB := TW.hide hb
      clear n0 nz nv hb
      clear n1
      go_wp2
      refine HA.out _ _ ?_
      clear HA
      generalize hfl : fL hs ms n la no = fl at *
      have HFF := TW.hide hfl
      clear hfl
      go_wp2_with (first | (refine wpList_load_row (by rfl) 23 _ (by rfl) (B) (by rfl) 23 (K .u32 hs) (0, 0) _ G0.out Tryd.underlying23 rfl I8.out ?_) | (refine wpList_load_row (by rfl) 34 _ (by rfl) (g) (by rfl) 34 (K .u32 V) (0, 0) _ GV.out Tryd.underlying34 rfl IVV.out ?_))
      refine HE.out.mono ?_
      rintro e w2 ⟨rfl, hb2⟩
      have MZ := TW.hide (blk_keep GZ.out hb2)
      have MB : Hid (Below B w w2) := below_row GB.out hb2 (by have := blk_lt G0.out; omega)
      clear hb2 G0 GZ GV GB HE
      go_wp2_with (refine wpList_store_row (by rfl) 23 _ _ (by rfl) (B + 1 + 1) (K .u32 fl) (by rfl) (by rfl) 23 _ MZ.out IO.out OO.out (K_one _ _) ?_)
      refine bodyPost_ret (v := .agg (K .u32 fl)) (results_cell_row (P := Tryd.prog) Tryd.results24 _ _ (B + 1 + 1) 23 (K .u32 fl) (0, 0) _ (by rfl) (setRow_heap _ _ _ _ _ _ MZ.out) Tryd.underlying23 rfl IO.out) rfl ?_
      exact ⟨by rw [HFF.out], below_setRow MB.out (by omega)⟩
end MX
end Go.Proofs.YtecepllidmkmhabDoor
