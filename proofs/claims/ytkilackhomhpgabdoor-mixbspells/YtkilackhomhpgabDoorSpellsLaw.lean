/-
  What the law MixbSpells does: F is Init, twelve rounds, and both halves laid over the state.
-/
import Derived.Test.YtkilackhomhpgabDoorBlockLaws
import Derived.Test.YtkilackhomhpgabDoorTables
namespace Go.Proofs.YtkilackhomhpgabDoor
open Go.RowKit
set_option linter.unusedVariables false
set_option linter.unusedSimpArgs false
namespace MX
open Turn
attribute [local go_sem ↓] Go.wp_at_zero Go.wp_at_succ
theorem range_cellAt {w : World} {b : Nat} {k : IntKind} {l : List Int} (h : w.rangeAt b 0 (l.map (Value.int k))) (i : Nat) (hi : i < l.length) : w.cell? ⟨b, i, none⟩ = some (.int k (l.getD i 0)) := by
  have := h i (.int k (l.getD i 0)) (by simp [List.getD_eq_getElem?_getD, List.getElem?_eq_getElem hi])
  simpa using this
set_option maxRecDepth 100000 in
set_option maxHeartbeats 4000000 in
theorem spellsWalk (hs ms : List Int) (lo hi : Int) (la no : Bool) (w : World) (ti : Tab w 0 .u64 ivL) (to : Tab w 1 .u8 ordL) (tp : Tab w 2 .u8 plL) (hl : hs.length = 8) (hm : ms.length = 16) (hw : Ws hs) (hM : Ws ms) (wl : W lo) (wh : W hi) :
    Calls Tryd.prog 5 #[.agg (blockC hs ms lo hi la no)] w fun e w' => e = .returned (.bool true) ∧ Below w.heap.size w w' := by
  have i8 : (Tryd.prog.info? 23).map (·.size) = some (hs.map (Value.int .u64)).length := by rw [List.length_map, hl]; kernel_rfl
  have i16 : (Tryd.prog.info? 24).map (·.size) = some (ms.map (Value.int .u64)).length := by rw [List.length_map, hm]; kernel_rfl
  have hsc := fun Z B => block_cell hs ms lo hi la no hl hm Z B
  have haw := fun Y (hb : Below w.heap.size w Y) => awake Y (ti.below hb) (to.below hb)
  have hin := fun Y (hb : Below w.heap.size w Y) => init hs lo hi la no Y (ti.below hb) hl hw wl wh
  have hro := fun (us : List Int) (k : Nat) Y (h1 : us.length = 16) (h2 : Ws us) (hk : k < 12) (hb : Below w.heap.size w Y) => roundOk us ms k Y h1 hm h2 hM hk (to.below hb) (tp.below hb)
  have hff := fun Y (hb : Below w.heap.size w Y) => fOk hs ms lo hi la no Y (ti.below hb) (to.below hb) (tp.below hb) hl hm hw hM wl wh
  have iv := info31 (initL hs lo hi la no) (initL_length hs lo hi la no hl)
  have ov := size16 (List.replicate 16 0) (initL hs lo hi la no) rfl (initL_length hs lo hi la no hl)
  have jf := info23 (fL hs ms lo hi la no) (fL_length hs ms lo hi la no)
  have jo := size8 (List.replicate 8 0) (fL hs ms lo hi la no) rfl (fL_length hs ms lo hi la no)
  have hvl := initL_length hs lo hi la no hl
  have hvw := initL_Ws la no hw wl wh
  have I8 := TW.hide i8
  have I16 := TW.hide i16
  have HSC := TW.hide hsc
  have HAW := TW.hide haw
  have HIN := TW.hide hin
  have HRO := TW.hide hro
  have HFF := TW.hide hff
  have IV := TW.hide iv
  have OV := TW.hide ov
  have JF := TW.hide jf
  have JO := TW.hide jo
  have HVL := TW.hide hvl
  have HVW := TW.hide hvw
  have HHW := TW.hide hw
  have HHL := TW.hide hl
  clear i8 i16 hsc haw hin hro hff iv ov jf jo hvl hvw hw hl
  have hb := ((Below.refl w.heap.size w).alloc (Nat.le_refl _) (.cells (blockC hs ms lo hi la no) 28))
  have n0 := (heap_new w (.cells (blockC hs ms lo hi la no) 28))
  clear ti to tp hm hM wl wh
  go_enter Tryd.func5, Tryd.ntmps5
  refine wp_seq_k fun K hK => ?_
  have HK := TW.hide hK
  clear hK
  go_wp2
  refine HK.out _ _ ?_
  clear HK K
  change Code.wp _ _ _ _ (w.alloc (.cells (blockC hs ms lo hi la no) 28))
  generalize hWW : w.alloc (.cells (blockC hs ms lo hi la no) 28) = W at hb n0 ⊢
  have hW : W.heap.size = w.heap.size + 1 := by rw [← hWW]; simp
  clear hWW
  generalize hB : w.heap.size = B at *
  have NA := TW.hide n0
  have NC := TW.hide hb
  clear n0 hb hW
  refine wp_seq_k fun KK hK => ?_
  have HK := TW.hide hK
  clear hK
  go_wp2_with fail
  refine (HAW.out W NC.out).mono ?_
  rintro e w0 ⟨rfl, hb0⟩
  have N0 := TW.hide (blk_keep NA.out hb0)
  have NB : Hid (Below B w w0) := below_row NC.out hb0 (by have := blk_lt NA.out; omega)
  clear hb0 NA NC HAW
  go_wp2
  refine HK.out _ _ ?_
  clear HK KK
  obtain ⟨hr0, hr1, hr2, k0, k1, k2, k3⟩ := HSC.out _ _ N0.out
  have HR0 := TW.hide hr0
  have HR1 := TW.hide hr1
  have HR2 := TW.hide hr2
  clear hr0 hr1 hr2
  refine wp_seq_k fun KK hK => ?_
  have HK := TW.hide hK
  clear hK
  go_wp2_with (first | (refine wpList_load_mid (by rfl) 23 _ (by rfl) B 0 (by rfl) (hs.map (Value.int .u64)) _ HR0.out Tryd.underlying23 rfl I8.out ?_) | (refine wpList_load_mid (by rfl) 26 _ (by rfl) B 24 (by rfl) [Value.int .u64 lo, Value.int .u64 hi] _ HR2.out Tryd.underlying26 rfl (by kernel_rfl) ?_))
  clear k0 k1 k2 k3 HR0 HR1 HR2
  refine (HIN.out w0 NB.out).mono ?_
  rintro e w1 ⟨rfl, hb1⟩
  have N0' := TW.hide (blk_keep N0.out hb1)
  have NB' : Hid (Below B w w1) := below_row NB.out hb1 (le_of_below NB.out (by omega))
  clear hb1
  clear N0 NB
  have N0 := N0'
  have NB := NB'
  clear N0' NB'
  go_wp2_with (first | (refine wpList_store_row (by rfl) 24 _ _ (by rfl) w1.heap.size (K .u64 (initL hs lo hi la no)) (by rfl) (by rfl) 24 _ (heap_new w1 _) IV.out OV.out (K_one _ _) ?_))
  have HZ := N0
  have n1 := setRow_heap _ _ _ (K .u64 (initL hs lo hi la no)) _ _ (heap_new w1 (.cells #[.int .u64 0, .int .u64 0, .int .u64 0, .int .u64 0, .int .u64 0, .int .u64 0, .int .u64 0, .int .u64 0, .int .u64 0, .int .u64 0, .int .u64 0, .int .u64 0, .int .u64 0, .int .u64 0, .int .u64 0, .int .u64 0] 24))
  have bx1 := below_setRow (cs := (K .u64 (initL hs lo hi la no))) ((Below.refl w1.heap.size w1).alloc (Nat.le_refl _) (.cells #[.int .u64 0, .int .u64 0, .int .u64 0, .int .u64 0, .int .u64 0, .int .u64 0, .int .u64 0, .int .u64 0, .int .u64 0, .int .u64 0, .int .u64 0, .int .u64 0, .int .u64 0, .int .u64 0, .int .u64 0, .int .u64 0] 24)) (g := w1.heap.size) (Nat.le_refl _)
  generalize (w1.alloc (.cells #[.int .u64 0, .int .u64 0, .int .u64 0, .int .u64 0, .int .u64 0, .int .u64 0, .int .u64 0, .int .u64 0, .int .u64 0, .int .u64 0, .int .u64 0, .int .u64 0, .int .u64 0, .int .u64 0, .int .u64 0, .int .u64 0] 24)).setRow w1.heap.size (K .u64 (initL hs lo hi la no)) = X1 at n1 bx1 ⊢
  have N0' := TW.hide (blk_keep N0.out bx1)
  have NB' : Hid (Below B w X1) := below_row NB.out bx1 (le_of_below NB.out (by omega))
  have R1 := TW.hide n1
  clear n1 bx1
  clear N0 NB
  have N0 := N0'
  have NB := NB'
  clear N0' NB'
  have hg : B < w1.heap.size := blk_lt HZ.out
  clear HZ
  generalize w1.heap.size = g at *
  refine HK.out _ _ ?_
  clear HK KK
  clear IV OV HIN
  go_wp2
  go_loopw [4] (fun i wr => ∃ k : Nat, k ≤ 12 ∧ i = .int .i64 k ∧ wr.heap[B]? = some (.cells (blockC hs ms lo hi la no) 28 (0, 0)) ∧ wr.heap[g]? = some (.cells (K .u64 (roundsL (initL hs lo hi la no) ms k)) 24 (0, 0)) ∧ Below B w wr) (fun i _ => 12 - (intOf i).toNat)
  case atStart => exact ⟨0, Nat.zero_le _, rfl, N0.out, R1.out, NB.out⟩
  case round =>
    rename_i Q1 K1 a1
    obtain ⟨k, hk, rfl, n0, nv, hb⟩ := hrel
    clear N0 R1 NB X1
    have hul : (roundsL (initL hs lo hi la no) ms k).length = 16 := by rw [roundsL_length]; exact HVL.out
    have huw : Ws (roundsL (initL hs lo hi la no) ms k) := roundsL_Ws ms k HVW.out
    by_cases hlt : k < 12
    · have hst : roundsL (initL hs lo hi la no) ms (k + 1) = forthL (roundsL (initL hs lo hi la no) ms k) ms k := rfl
      generalize roundsL (initL hs lo hi la no) ms k = us at *
      have hcall := HRO.out us k wr hul huw hlt hb
      have hl2 : (forthL us ms k).length = 16 := by rw [forthL_length]; exact hul
      generalize forthL us ms k = us2 at *
      have HC := TW.hide hcall
      have HST := TW.hide hst
      have IU := TW.hide (info31 us hul)
      have IU2 := TW.hide (info31 us2 hl2)
      have OU := TW.hide (size16 us us2 hul hl2)
      have OZ := TW.hide (size16 (List.replicate 16 0) us2 rfl hl2)
      have G0 := TW.hide n0
      have GV := TW.hide nv
      have GB := TW.hide hb
      clear n0 nv hb
      obtain ⟨hr0, hr1, hr2, k0, k1, k2, k3⟩ := HSC.out _ _ G0.out
      have HR0 := TW.hide hr0
      have HR1 := TW.hide hr1
      have HR2 := TW.hide hr2
      clear hr0 hr1 hr2
      clear hcall hst hul huw hl2
      have k12 : (k : Int) < 12 := by omega
      go_wp2_with (first | (refine wpList_load_row (by rfl) 24 _ (by rfl) (g) (by rfl) 24 (K .u64 us) (0, 0) _ GV.out Tryd.underlying24 rfl IU.out ?_) | (refine wpList_load_mid (by rfl) 24 _ (by rfl) B 8 (by rfl) (ms.map (Value.int .u64)) _ HR1.out Tryd.underlying24 rfl I16.out ?_))
      refine HC.out.mono ?_
      rintro e w2 ⟨rfl, hb2⟩
      have M0 := TW.hide (blk_keep G0.out hb2)
      have MV := TW.hide (blk_keep GV.out hb2)
      have hgl := blk_lt MV.out
      have MB : Hid (Below B w w2) := below_row GB.out hb2 (by have := blk_lt G0.out; omega)
      clear hb2 G0 GV GB HC HR0 HR1 HR2 k0 k1 k2 k3
      have NX : Hid (((w2.alloc (.cells #[.int .u64 0, .int .u64 0, .int .u64 0, .int .u64 0, .int .u64 0, .int .u64 0, .int .u64 0, .int .u64 0, .int .u64 0, .int .u64 0, .int .u64 0, .int .u64 0, .int .u64 0, .int .u64 0, .int .u64 0, .int .u64 0] 24)).setRow w2.heap.size (K .u64 us2)).heap[w2.heap.size]? = some (.cells (K .u64 us2) 24 (0, 0))) := setRow_heap _ _ _ _ _ _ (heap_new w2 _)
      have NG : Hid (((w2.alloc (.cells #[.int .u64 0, .int .u64 0, .int .u64 0, .int .u64 0, .int .u64 0, .int .u64 0, .int .u64 0, .int .u64 0, .int .u64 0, .int .u64 0, .int .u64 0, .int .u64 0, .int .u64 0, .int .u64 0, .int .u64 0, .int .u64 0] 24)).setRow w2.heap.size (K .u64 us2)).heap[g]? = some (.cells (K .u64 us) 24 (0, 0))) := by
        show _ = _
        rw [setRow_other _ _ _ _ (by omega)]; exact blk_alloc MV.out
      have N0 : Hid (((w2.alloc (.cells #[.int .u64 0, .int .u64 0, .int .u64 0, .int .u64 0, .int .u64 0, .int .u64 0, .int .u64 0, .int .u64 0, .int .u64 0, .int .u64 0, .int .u64 0, .int .u64 0, .int .u64 0, .int .u64 0, .int .u64 0, .int .u64 0] 24)).setRow w2.heap.size (K .u64 us2)).heap[B]? = some (.cells (blockC hs ms lo hi la no) 28 (0, 0))) := by
        show _ = _
        rw [setRow_other _ _ _ _ (by omega)]; exact blk_alloc M0.out
      have NB : Hid (Below B w ((w2.alloc (.cells #[.int .u64 0, .int .u64 0, .int .u64 0, .int .u64 0, .int .u64 0, .int .u64 0, .int .u64 0, .int .u64 0, .int .u64 0, .int .u64 0, .int .u64 0, .int .u64 0, .int .u64 0, .int .u64 0, .int .u64 0, .int .u64 0] 24)).setRow w2.heap.size (K .u64 us2))) := below_setRow (MB.out.alloc (by have := blk_lt M0.out; omega) _) (by have := blk_lt M0.out; omega)
      go_wp2_with (first | (refine wpList_store_row (by rfl) 24 _ _ (by rfl) w2.heap.size (K .u64 us2) (by rfl) (by rfl) 24 _ (heap_new w2 _) IU2.out OZ.out (K_one _ _) ?_) | (refine wpList_load_row (by rfl) 24 _ (by rfl) (w2.heap.size) (by rfl) 24 (K .u64 us2) (0, 0) _ NX.out Tryd.underlying24 rfl IU2.out ?_) | (refine wpList_store_row (by rfl) 24 _ _ (by rfl) (g) (K .u64 us2) (by rfl) (by rfl) 24 _ NG.out IU2.out OU.out (K_one _ _) ?_))
      go_roundw
      case rel =>
        refine ⟨k + 1, by omega, by go_num, ?_, ?_, below_setRow NB.out (by omega)⟩
        · rw [setRow_other _ _ _ _ (by omega)]; exact N0.out
        · rw [HST.out]; exact setRow_heap _ _ _ _ _ _ NG.out
      case measure => simp [intOf]; omega
    · obtain rfl : k = 12 := by omega
      have HA := TW.hide a1
      clear a1
      have hF : (fL hs ms lo hi la no) = overL hs (roundsL (initL hs lo hi la no) ms 12) := rfl
      generalize roundsL (initL hs lo hi la no) ms 12 = V at *
      have HFL := TW.hide hF
      have HLU := TW.hide hul
      have HUW := TW.hide huw
      clear hul huw hF
      have N0 := TW.hide n0
      have R1 := TW.hide nv
      have NB := TW.hide hb
      clear n0 nv hb
      go_wp2
      refine HA.out _ _ ?_
      clear HA
      obtain ⟨hr0, hr1, hr2, k0, k1, k2, k3⟩ := HSC.out _ _ N0.out
      have HR0 := TW.hide hr0
      have HR1 := TW.hide hr1
      have HR2 := TW.hide hr2
      clear hr0 hr1 hr2
      refine wp_seq_k fun KK hK => ?_
      have HK := TW.hide hK
      clear hK
      go_wp2_with (first | (refine wpList_load_mid (by rfl) 23 _ (by rfl) B 0 (by rfl) (hs.map (Value.int .u64)) _ HR0.out Tryd.underlying23 rfl I8.out ?_) | (refine wpList_load_mid (by rfl) 24 _ (by rfl) B 8 (by rfl) (ms.map (Value.int .u64)) _ HR1.out Tryd.underlying24 rfl I16.out ?_) | (refine wpList_load_mid (by rfl) 26 _ (by rfl) B 24 (by rfl) [Value.int .u64 lo, Value.int .u64 hi] _ HR2.out Tryd.underlying26 rfl (by kernel_rfl) ?_))
      clear k0 k1 k2 k3 HR0 HR1 HR2
      refine (HFF.out wr NB.out).mono ?_
      rintro e w3 ⟨rfl, hb3⟩
      have N0' := TW.hide (blk_keep N0.out hb3)
      have R1' := TW.hide (blk_keep R1.out hb3)
      have NB' : Hid (Below B w w3) := below_row NB.out hb3 (le_of_below NB.out (by omega))
      clear hb3
      clear N0 R1 NB
      have N0 := N0'
      have R1 := R1'
      have NB := NB'
      clear N0' R1' NB'
      go_wp2_with (first | (refine wpList_store_row (by rfl) 23 _ _ (by rfl) w3.heap.size (K .u64 (fL hs ms lo hi la no)) (by rfl) (by rfl) 23 _ (heap_new w3 _) JF.out JO.out (K_one _ _) ?_))
      have n3 := setRow_heap _ _ _ (K .u64 (fL hs ms lo hi la no)) _ _ (heap_new w3 (.cells #[.int .u64 0, .int .u64 0, .int .u64 0, .int .u64 0, .int .u64 0, .int .u64 0, .int .u64 0, .int .u64 0] 23))
      have bx3 := below_setRow (cs := (K .u64 (fL hs ms lo hi la no))) ((Below.refl w3.heap.size w3).alloc (Nat.le_refl _) (.cells #[.int .u64 0, .int .u64 0, .int .u64 0, .int .u64 0, .int .u64 0, .int .u64 0, .int .u64 0, .int .u64 0] 23)) (g := w3.heap.size) (Nat.le_refl _)
      generalize (w3.alloc (.cells #[.int .u64 0, .int .u64 0, .int .u64 0, .int .u64 0, .int .u64 0, .int .u64 0, .int .u64 0, .int .u64 0] 23)).setRow w3.heap.size (K .u64 (fL hs ms lo hi la no)) = X3 at n3 bx3 ⊢
      have N0' := TW.hide (blk_keep N0.out bx3)
      have R1' := TW.hide (blk_keep R1.out bx3)
      have NB' : Hid (Below B w X3) := below_row NB.out bx3 (le_of_below NB.out (by omega))
      have R2 := TW.hide n3
      clear n3 bx3
      clear N0 R1 NB
      have N0 := N0'
      have R1 := R1'
      have NB := NB'
      clear N0' R1' NB'
      generalize w3.heap.size = g2 at *
      refine HK.out _ _ ?_
      clear HK KK
      clear HFF JF JO
      go_wp2
      go_loopw [8] (fun i wr => ∃ k : Nat, k ≤ 8 ∧ i = .int .i64 k ∧ wr.heap[B]? = some (.cells (blockC hs ms lo hi la no) 28 (0, 0)) ∧ wr.heap[g]? = some (.cells (K .u64 V) 24 (0, 0)) ∧ wr.heap[g2]? = some (.cells (K .u64 (fL hs ms lo hi la no)) 23 (0, 0)) ∧ Below B w wr) (fun i _ => 8 - (intOf i).toNat)
      case atStart => exact ⟨0, Nat.zero_le _, rfl, N0.out, R1.out, R2.out, NB.out⟩
      case round =>
        obtain ⟨k, hk, rfl, n0, nv, nf, hb⟩ := hrel
        clear N0 R1 R2 NB
        by_cases hlt : k < 8
        · have hc0 := range_cellAt (HSC.out _ _ n0).1 k (by rw [HHL.out]; exact hlt)
          have hc1 := blk_cellK nv (i := k) (by rw [HLU.out]; omega)
          have hc2 := blk_cellK nv (i := k + 8) (by rw [HLU.out]; omega)
          have hc3 := blk_cellK nf (i := k) (by rw [fL_length]; exact hlt)
          rw [HFL.out, overL_get hs V k hlt, ← xo_assoc _ _ _ (HHW.out.get k) (HUW.out.get k) (HUW.out.get (k + 8))] at hc3
          generalize hs.getD k 0 = x at *
          generalize V.getD k 0 = y at *
          generalize V.getD (k + 8) 0 = z at *
          obtain ⟨q1, e1⟩ : ∃ q, xo x y = q := ⟨_, rfl⟩
          rw [e1] at hc3
          obtain ⟨q, e2⟩ : ∃ q, xo q1 z = q := ⟨_, rfl⟩
          rw [e2] at hc3
          unfold xo at e1 e2
          have hqq : (q != q) = false := by simp
          have G0 := TW.hide n0
          have GV := TW.hide nv
          have GF := TW.hide nf
          have GB := TW.hide hb
          clear n0 nv nf hb
          have k0 : (0 : Int) ≤ (k : Int) := by omega
          have k1 : (k : Int) < 8 := by omega
          have k2 : (k : Int) < 16 := by omega
          have k3 : (k : Int) + 8 < 16 := by omega
          have k4 : (0 : Int) ≤ (k : Int) + 8 := by omega
          have hnk : IntKind.i64.wrap ((k : Int) + 8) = (k : Int) + 8 := by rw [IntKind.wrap_i64]; omega
          have hnt : ((k : Int) + 8).toNat = k + 8 := by omega
          go_wp2
          go_quiet (fail)
          go_wp2
          (first | (go_roundw; case' rel => skip) | (refine ⟨?_, ?measure⟩; (repeat apply Exists.intro); refine ⟨?rel, rfl⟩))
          case rel => exact ⟨k + 1, by omega, by go_num, G0.out, GV.out, GF.out, below_drewN GB.out _⟩
          case measure => simp [intOf]; omega
        · obtain rfl : k = 8 := by omega
          have GB := TW.hide hb
          clear n0 nv nf hb
          go_wp2
          go_ret
          exact ⟨rfl, GB.out⟩
end MX
end Go.Proofs.YtkilackhomhpgabDoor
