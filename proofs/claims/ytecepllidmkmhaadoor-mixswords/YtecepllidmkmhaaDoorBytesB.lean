/-
  What the calls Bytes (the program, the document) give, for all words: a row of the call's own.
-/
import Derived.Test.YtecepllidmkmhaaDoorStore
import Derived.Test.YtecepllidmkmhaaDoorWide
import Derived.Test.YtecepllidmkmhaaDoorOrder
import Derived.Great.BuildSlice
import Derived.Maps.AppendAt
namespace Go.Proofs.YtecepllidmkmhaaDoor
open Go.RowKit
set_option linter.unusedVariables false
set_option linter.unusedSimpArgs false
namespace MX
open Turn
attribute [local go_sem ↓] Go.wp_at_zero Go.wp_at_succ
open Words
/-- The bytes of a row of words. -/
def bytesL (hs : List Int) : List Int := hs.flatMap fun x => un x 4
theorem bytesL_snoc (hs : List Int) (k : Nat) (h : k < hs.length) : bytesL (hs.take (k + 1)) = bytesL (hs.take k) ++ un (hs.getD k 0) 4 := by
  unfold bytesL
  rw [LW.take_snoc hs k h, List.flatMap_append]
  simp
theorem bytesL_length (hs : List Int) : (bytesL hs).length = 4 * hs.length := by
  induction hs with
  | nil => rfl
  | cons x l ih => simp only [bytesL, List.flatMap_cons, List.length_append, un_length] at ih ⊢; simp only [List.length_cons]; omega
theorem bytesL_Byt (hs : List Int) : Byt (bytesL hs) := by
  induction hs with
  | nil => exact Byt.nil
  | cons x l ih => exact Byt.append (Byt.un x 4) ih
theorem own_below5 {w w' : World} {B n : Nat} {v : Value} {xs : List Value} (h : w.ownsRow B 5 1 v n xs) (hb : Below w.heap.size w w') : w'.ownsRow B 5 1 v n xs := by
  rcases h.2 with ⟨rfl, h0⟩ | ⟨g, cap, cur, rfl, hg, hh, hn, hm, hc, ht⟩
  · exact ⟨h.1, .inl ⟨rfl, h0⟩⟩
  · exact ⟨h.1, .inr ⟨g, cap, cur, rfl, hg, blk_keep hh hb, hn, hm, hc, ht⟩⟩
theorem own_drew {w : World} {B n : Nat} {v : Value} {xs : List Value} (h : w.ownsRow B 5 1 v n xs) : w.drew.ownsRow B 5 1 v n xs := h
theorem own_base5 {w : World} {B B' n : Nat} {v : Value} {xs : List Value} (h : w.ownsRow B 5 1 v n xs) (hb : B' ≤ B) : w.ownsRow B' 5 1 v n xs := by
  rcases h.2 with ⟨rfl, h0⟩ | ⟨g, cap, cur, rfl, hg, hh, hn, hm, hc, ht⟩
  · exact ⟨h.1, .inl ⟨rfl, h0⟩⟩
  · exact ⟨h.1, .inr ⟨g, cap, cur, rfl, by omega, hh, hn, hm, hc, ht⟩⟩
theorem grown_keep5 {w w' : World} {row : Option Nat} {b : Nat} {o : Obj} (h : w.heap[b]? = some o) (hg : w.grownBy w' row) (hne : row ≠ some b) : w'.heap[b]? = some o := by
  rw [hg.block b (blk_lt h) (Ne.symm hne)]; exact h
theorem un_four (z : Int) : un z 4 = [z % 256, z / 256 % 256, z / 65536 % 256, z / 16777216 % 256] := by
  simp only [un]
  rw [Int.ediv_ediv_of_nonneg (by decide), Int.ediv_ediv_of_nonneg (by decide)]
  rfl
set_option maxRecDepth 100000 in
set_option maxHeartbeats 2000000 in
theorem bytes (hs : List Int) (w : World) (hl : hs.length = 8) (hW : Ws hs) :
    Calls Tryd.prog 15 #[.agg (K .u32 hs)] w fun e w' => ∃ v, e = .returned v ∧ w'.ownsRow w.heap.size 5 1 v 32 (LW.vs (bytesL hs)) ∧ Below w.heap.size w w' := by
  obtain ⟨i0, hi, hz0, hz1, hz2⟩ := info_parts LW.info5
  have ih := info8 hs hl
  have hb := ((Below.refl w.heap.size w).alloc (Nat.le_refl _) (.cells (K .u32 hs) 24))
  have n0 := (heap_new w (.cells (K .u32 hs) 24))
  have HI := TW.hide ih
  clear ih
  go_enter Tryd.func15, Tryd.ntmps15
  refine wp_seq_k fun K hK => ?_
  have HK := TW.hide hK
  clear hK
  go_wp2
  refine HK.out _ _ ?_
  clear HK K
  change Code.wp _ _ _ _ (w.alloc (.cells (K .u32 hs) 24))
  generalize hWW : w.alloc (.cells (K .u32 hs) 24) = W at hb n0 ⊢
  have hWs : W.heap.size = w.heap.size + 1 := by rw [← hWW]; simp
  clear hWW
  generalize hB : w.heap.size = B at *
  have N0 := TW.hide n0
  have NB := TW.hide hb
  clear n0 hb
  refine wp_seq_k fun KK hK => ?_
  have HK := TW.hide hK
  clear hK
  go_wp2_with (at_make; refine wpList_make_own _ rfl _ _ 22 rfl (B + 1) 5 i0 (.int .u8 0) 1 Tryd.underlying22 hi hz0 hz1 _ _ 32 32 rfl rfl rfl (by rw [hz2]; omega) (by unfold maxLen; omega) (by omega) ?_; intro w1 hown hgrow)
  have M0 := TW.hide (grown_keep5 N0.out hgrow (by intro h; cases h))
  have MB : Hid (Below B w w1) := NB.out.grown hgrow (by omega) (by intro k h; cases h)
  rw [hWs] at hown
  have MO := TW.hide hown
  have hsz1 : B + 1 ≤ w1.heap.size := by have := hgrow.size; omega
  clear hown hgrow N0 NB
  refine HK.out _ _ ?_
  clear HK KK
  go_wp2_with (refine wpList_load_row (by rfl) 24 _ (by rfl) (B) (by rfl) 24 (K .u32 hs) (0, 0) _ M0.out Tryd.underlying24 rfl HI.out ?_)
  go_loopw [3, 8] (fun b i wr => ∃ k : Nat, k ≤ 8 ∧ i = .int .i64 k ∧ wr.heap[B]? = some (.cells (K .u32 hs) 24 (0, 0)) ∧ wr.ownsRow (B + 1) 5 1 b (4 * k) (LW.vs (bytesL (hs.take k))) ∧ B + 1 ≤ wr.heap.size ∧ Below B w wr) (fun _ i _ => 8 - (intOf i).toNat)
  case atStart => exact ⟨0, Nat.zero_le _, rfl, M0.out, MO.out, hsz1, MB.out⟩
  case round =>
    obtain ⟨k, hk, rfl, n0, hown, hs1, hb⟩ := hrel
    clear M0 MB MO hsz1 hWs
    by_cases hlt : k < 8
    · have hx : ∀ X, (Instr.index 24 (.agg (K .u32 hs)) (.int .i64 (k : Int))).run Tryd.prog X = .ok (.int .u32 (hs.getD k 0)) X := fun X =>
        run_index_cell 24 23 8 _ _ k _ X Tryd.underlying24 Tryd.underlying23 rfl (by kernel_rfl) hlt (K_get .u32 hs k (by omega))
      have hsn := bytesL_snoc hs k (by omega)
      have hzw := hW.get k
      have hst := fun X => LW.store32 (hs.getD k 0) X hzw.1 hzw.2
      generalize hs.getD k 0 = z at *
      have HSN := TW.hide hsn
      have HST := TW.hide hst
      have N0 := TW.hide n0
      have NO := TW.hide hown
      have NB := TW.hide hb
      clear hsn hst n0 hown hb hzw
      go_wp2_with fail
      refine (HST.out _).mono ?_
      rintro e w1 ⟨aa, cap, rfl, hrow, hb1⟩
      obtain ⟨ab, aoff, rfl, hcell⟩ := row_at hrow (by rw [un_length]; omega)
      have HCELL := TW.hide hcell
      have HW := TW.hide (own_below5 NO.out hb1)
      have HBX := TW.hide (blk_keep N0.out hb1)
      have HBW : Hid (Below B w w1) := below_row NB.out hb1 (by omega)
      have hs2 : B + 1 ≤ w1.heap.size := Nat.le_trans hs1 hb1.size
      clear hrow hcell hb1 NO N0 NB
      have hl8 : (bytesL (hs.take k)).length = 4 * k := by rw [bytesL_length, List.length_take]; omega
      go_wp2_with (at_builtin; refine wpList_append_own _ rfl _ _ 22 rfl (B + 1) 5 i0 (.int .u8 0) 1 1 Tryd.underlying22 hi hz0 hz1 hz2 rfl (by decide) _ _ _ rfl HW.out ⟨ab, aoff, none⟩ 4 cap (LW.vs (un z 4)) rfl ?c0 ?c1 ?c2 ?c3 ?c4 ?c5 ?_)
      case c0 => rw [LW.vs_length, un_length]
      case c1 => exact HCELL.out
      case c2 => exact oneCell_vs _
      case c3 => unfold maxLen; omega
      case c4 => omega
      case c5 => have := HBW.out.size; omega
      intro v' w2 hown' hgrow' _
      have hbel2 : Hid (Below B w w2) := HBW.out.grown hgrow' (by have := HBW.out.size; omega) (fun k hk => by have := LW.own_block HW.out k hk; omega)
      have hown2 : Hid (w2.ownsRow (B + 1) 5 1 v' (4 * (k + 1)) (LW.vs (bytesL (hs.take (k + 1))))) := by
        show w2.ownsRow _ _ _ _ _ _
        rw [HSN.out, LW.vs_append, show 4 * (k + 1) = 4 * k + 4 by omega]; exact hown'
      have hbox2 : Hid (w2.heap[B]? = some (.cells (K .u32 hs) 24 (0, 0))) := grown_keep5 HBX.out hgrow' (fun h => by have := LW.own_block HW.out B h; omega)
      clear hown' hgrow' HW HBW HBX HCELL
      go_wp2
      go_roundw
      case rel => exact ⟨k + 1, by omega, by go_num, hbox2.out, hown2.out, by have := blk_lt hbox2.out; have := hbel2.out.size; omega, hbel2.out⟩
      case measure => simp [intOf]; omega
    · obtain rfl : k = 8 := by omega
      have hfull : hs.take 8 = hs := List.take_of_length_le (by omega)
      rw [hfull] at hown
      have NO := TW.hide hown
      have NB := TW.hide hb
      clear n0 hown hb
      go_wp2
      go_ret
      exact ⟨_, rfl, own_base5 NO.out (by omega), NB.out⟩
set_option maxRecDepth 100000 in
set_option maxHeartbeats 1000000 in
theorem rbytes (hs : List Int) (w : World) (hl : hs.length = 8) (hW : Ws hs) :
    Calls Tryd.prog 17 #[.agg (K .u32 hs)] w fun e w' => ∃ v, e = .returned v ∧ w'.ownsRow w.heap.size 5 1 v 32 (LW.vs (bytesL hs)) ∧ Below w.heap.size w w' := by
  obtain ⟨i0, hi, hz0, hz1, hz2⟩ := info_parts LW.info5
  have hb := ((Below.refl w.heap.size w).alloc (Nat.le_refl _) (.cells (K .u32 hs) 24))
  have n0 := (heap_new w (.cells (K .u32 hs) 24))
  go_enter Tryd.func17, Tryd.ntmps17
  refine wp_seq_k fun K hK => ?_
  have HK := TW.hide hK
  clear hK
  go_wp2
  refine HK.out _ _ ?_
  clear HK K
  change Code.wp _ _ _ _ (w.alloc (.cells (K .u32 hs) 24))
  generalize hWW : w.alloc (.cells (K .u32 hs) 24) = W at hb n0 ⊢
  have hWs : W.heap.size = w.heap.size + 1 := by rw [← hWW]; simp
  clear hWW
  generalize hB : w.heap.size = B at *
  have M0 := TW.hide n0
  have MB := TW.hide hb
  clear n0 hb
  go_wp2
  go_loopw [3, 4] (fun b i wr => ∃ k : Nat, k ≤ 8 ∧ i = .int .i64 k ∧ wr.heap[B]? = some (.cells (K .u32 hs) 24 (0, 0)) ∧ wr.ownsRow (B + 1) 5 1 b (4 * k) (LW.vs (bytesL (hs.take k))) ∧ Below B w wr) (fun _ i _ => 8 - (intOf i).toNat)
  case atStart => exact ⟨0, Nat.zero_le _, rfl, M0.out, World.ownsRow_nil _ _ _ _, MB.out⟩
  case round =>
    obtain ⟨k, hk, rfl, n0, hown, hb⟩ := hrel
    clear M0 MB hWs
    by_cases hlt : k < 8
    · have hsn := bytesL_snoc hs k (by omega)
      have hzw := hW.get k
      have HCY : Hid (∀ Z : World, Z.heap[B]? = some (.cells (K .u32 hs) 24 (0, 0)) → Z.cell? ⟨B, k, none⟩ = some (.int .u32 (hs.getD k 0))) := fun Z h => blk_cellK h (i := k) (by omega)
      rw [un_four] at hsn
      generalize hs.getD k 0 = z at *
      have HSN := TW.hide hsn
      obtain ⟨z0, z1⟩ := hzw
      have HO := TW.hide hown
      have HN0 := TW.hide n0
      have HB0 := TW.hide hb
      clear hsn n0 hown hb
      have hk1 : (k : Int) < 8 := by omega
      have w0 : IntKind.u8.wrap z = z % 256 := by rw [IntKind.wrap_u8]
      have w1 : IntKind.u8.wrap (z / 256) = z / 256 % 256 := by rw [IntKind.wrap_u8]
      have w2 : IntKind.u8.wrap (z / 65536) = z / 65536 % 256 := by rw [IntKind.wrap_u8]
      have w3 : IntKind.u8.wrap (z / 16777216) = z / 16777216 % 256 := by rw [IntKind.wrap_u8]
      go_wp2
      refine wp_region_noPanic ?_
      refine RG.wp_region_L (fun Z => True) (fun Z => Z.heap[B]? = some (.cells (K .u32 hs) 24 (0, 0)) ∧ Below B w Z) [] (by kernel_rfl) ?_
      refine RG.wpL_any fun Y hY => ?_
      have hyo := own_drew HO.out
      have hy0 := blk_drewN HN0.out 1
      have hyb := below_drewN HB0.out 1
      rw [← hY] at hyo
      change wr.drew.heap[B]? = _ at hy0
      change Below B w wr.drew at hyb
      rw [← hY] at hy0 hyb
      have YO := TW.hide hyo
      have Y0 := TW.hide hy0
      have YB := TW.hide hyb
      clear hY hyo hy0 hyb HO HN0 HB0
      refine RG.wpL_take (fuel := 3) (a' := ?A) [0, 1, 2, 3, 4, 5, 6, 7, 8, 9, 10, 11, 12, 13, 14, 15, 16, 17, 18, 19] (by kernel_rfl) (by kernel_rfl) (fun _ _ _ _ _ h => h) ⟨Y0.out, YB.out⟩ (fun _ => trivial) ?r ?_
      case r =>
        refine RG.RunsIf.weak (v := ?_) (by rfl) (by rfl) (fun Z hT => ?_) ?_
        rotate_left
        · have c := HCY.out Z hT.1
          go_simp
          rfl
        simp only [Act.put, List.setIfInBounds_toArray, List.set_cons_zero, List.set_cons_succ, List.getElem_toArray, List.getElem_cons_zero, List.getElem_cons_succ]
        refine RG.RunsIf.weak (v := ?_) (by rfl) (by rfl) (fun Z hT => ?_) ?_
        rotate_left
        · have c := HCY.out Z hT.1
          go_simp
          rfl
        simp only [Act.put, List.setIfInBounds_toArray, List.set_cons_zero, List.set_cons_succ, List.getElem_toArray, List.getElem_cons_zero, List.getElem_cons_succ]
        refine RG.RunsIf.weak (v := ?_) (by rfl) (by rfl) (fun Z hT => ?_) ?_
        rotate_left
        · have c := HCY.out Z hT.1
          go_simp
          rfl
        simp only [Act.put, List.setIfInBounds_toArray, List.set_cons_zero, List.set_cons_succ, List.getElem_toArray, List.getElem_cons_zero, List.getElem_cons_succ]
        refine RG.RunsIf.weak (v := ?_) (by rfl) (by rfl) (fun Z hT => ?_) ?_
        rotate_left
        · have c := HCY.out Z hT.1
          go_simp
          rfl
        simp only [Act.put, List.setIfInBounds_toArray, List.set_cons_zero, List.set_cons_succ, List.getElem_toArray, List.getElem_cons_zero, List.getElem_cons_succ]
        refine RG.RunsIf.weak (v := .int .u8 (z % 256)) (by rfl) (by rfl) (fun Z hT => ?_) ?_
        · go_simp
        simp only [Act.put, List.setIfInBounds_toArray, List.set_cons_zero, List.set_cons_succ, List.getElem_toArray, List.getElem_cons_zero, List.getElem_cons_succ]
        refine RG.RunsIf.weak (v := ?_) (by rfl) (by rfl) (fun Z hT => ?_) ?_
        rotate_left
        · have c := HCY.out Z hT.1
          go_simp
          rfl
        simp only [Act.put, List.setIfInBounds_toArray, List.set_cons_zero, List.set_cons_succ, List.getElem_toArray, List.getElem_cons_zero, List.getElem_cons_succ]
        refine RG.RunsIf.weak (v := ?_) (by rfl) (by rfl) (fun Z hT => ?_) ?_
        rotate_left
        · have c := HCY.out Z hT.1
          go_simp
          rfl
        simp only [Act.put, List.setIfInBounds_toArray, List.set_cons_zero, List.set_cons_succ, List.getElem_toArray, List.getElem_cons_zero, List.getElem_cons_succ]
        refine RG.RunsIf.weak (v := ?_) (by rfl) (by rfl) (fun Z hT => ?_) ?_
        rotate_left
        · have c := HCY.out Z hT.1
          go_simp
          rfl
        simp only [Act.put, List.setIfInBounds_toArray, List.set_cons_zero, List.set_cons_succ, List.getElem_toArray, List.getElem_cons_zero, List.getElem_cons_succ]
        refine RG.RunsIf.weak (v := ?_) (by rfl) (by rfl) (fun Z hT => ?_) ?_
        rotate_left
        · have c := HCY.out Z hT.1
          go_simp
          rfl
        simp only [Act.put, List.setIfInBounds_toArray, List.set_cons_zero, List.set_cons_succ, List.getElem_toArray, List.getElem_cons_zero, List.getElem_cons_succ]
        refine RG.RunsIf.weak (v := .int .u8 (z / 256 % 256)) (by rfl) (by rfl) (fun Z hT => ?_) ?_
        · go_simp
        simp only [Act.put, List.setIfInBounds_toArray, List.set_cons_zero, List.set_cons_succ, List.getElem_toArray, List.getElem_cons_zero, List.getElem_cons_succ]
        refine RG.RunsIf.weak (v := ?_) (by rfl) (by rfl) (fun Z hT => ?_) ?_
        rotate_left
        · have c := HCY.out Z hT.1
          go_simp
          rfl
        simp only [Act.put, List.setIfInBounds_toArray, List.set_cons_zero, List.set_cons_succ, List.getElem_toArray, List.getElem_cons_zero, List.getElem_cons_succ]
        refine RG.RunsIf.weak (v := ?_) (by rfl) (by rfl) (fun Z hT => ?_) ?_
        rotate_left
        · have c := HCY.out Z hT.1
          go_simp
          rfl
        simp only [Act.put, List.setIfInBounds_toArray, List.set_cons_zero, List.set_cons_succ, List.getElem_toArray, List.getElem_cons_zero, List.getElem_cons_succ]
        refine RG.RunsIf.weak (v := ?_) (by rfl) (by rfl) (fun Z hT => ?_) ?_
        rotate_left
        · have c := HCY.out Z hT.1
          go_simp
          rfl
        simp only [Act.put, List.setIfInBounds_toArray, List.set_cons_zero, List.set_cons_succ, List.getElem_toArray, List.getElem_cons_zero, List.getElem_cons_succ]
        refine RG.RunsIf.weak (v := ?_) (by rfl) (by rfl) (fun Z hT => ?_) ?_
        rotate_left
        · have c := HCY.out Z hT.1
          go_simp
          rfl
        simp only [Act.put, List.setIfInBounds_toArray, List.set_cons_zero, List.set_cons_succ, List.getElem_toArray, List.getElem_cons_zero, List.getElem_cons_succ]
        refine RG.RunsIf.weak (v := .int .u8 (z / 65536 % 256)) (by rfl) (by rfl) (fun Z hT => ?_) ?_
        · go_simp
        simp only [Act.put, List.setIfInBounds_toArray, List.set_cons_zero, List.set_cons_succ, List.getElem_toArray, List.getElem_cons_zero, List.getElem_cons_succ]
        refine RG.RunsIf.weak (v := ?_) (by rfl) (by rfl) (fun Z hT => ?_) ?_
        rotate_left
        · have c := HCY.out Z hT.1
          go_simp
          rfl
        simp only [Act.put, List.setIfInBounds_toArray, List.set_cons_zero, List.set_cons_succ, List.getElem_toArray, List.getElem_cons_zero, List.getElem_cons_succ]
        refine RG.RunsIf.weak (v := ?_) (by rfl) (by rfl) (fun Z hT => ?_) ?_
        rotate_left
        · have c := HCY.out Z hT.1
          go_simp
          rfl
        simp only [Act.put, List.setIfInBounds_toArray, List.set_cons_zero, List.set_cons_succ, List.getElem_toArray, List.getElem_cons_zero, List.getElem_cons_succ]
        refine RG.RunsIf.weak (v := ?_) (by rfl) (by rfl) (fun Z hT => ?_) ?_
        rotate_left
        · have c := HCY.out Z hT.1
          go_simp
          rfl
        simp only [Act.put, List.setIfInBounds_toArray, List.set_cons_zero, List.set_cons_succ, List.getElem_toArray, List.getElem_cons_zero, List.getElem_cons_succ]
        refine RG.RunsIf.weak (v := ?_) (by rfl) (by rfl) (fun Z hT => ?_) ?_
        rotate_left
        · have c := HCY.out Z hT.1
          go_simp
          rfl
        simp only [Act.put, List.setIfInBounds_toArray, List.set_cons_zero, List.set_cons_succ, List.getElem_toArray, List.getElem_cons_zero, List.getElem_cons_succ]
        refine RG.RunsIf.weak (v := .int .u8 (z / 16777216 % 256)) (by rfl) (by rfl) (fun Z hT => ?_) ?_
        · go_simp
        simp only [Act.put, List.setIfInBounds_toArray, List.set_cons_zero, List.set_cons_succ, List.getElem_toArray, List.getElem_cons_zero, List.getElem_cons_succ]
        exact RG.RunsIf.nil
      have hgB : B + 1 ≤ Y.heap.size := blk_lt Y0.out
      have A0 := TW.hide (blk_alloc (o' := .cells #[.int .u8 (z % 256), .int .u8 (z / 256 % 256), .int .u8 (z / 65536 % 256), .int .u8 (z / 16777216 % 256)] 5) Y0.out)
      have AO := TW.hide (own_below5 YO.out ((Below.refl _ _).alloc (Nat.le_refl _) (.cells #[.int .u8 (z % 256), .int .u8 (z / 256 % 256), .int .u8 (z / 65536 % 256), .int .u8 (z / 16777216 % 256)] 5)))
      have AB := TW.hide (YB.out.alloc (Nat.le_of_succ_le hgB) (.cells #[.int .u8 (z % 256), .int .u8 (z / 256 % 256), .int .u8 (z / 65536 % 256), .int .u8 (z / 16777216 % 256)] 5))
      have AN := TW.hide (heap_new Y (.cells #[.int .u8 (z % 256), .int .u8 (z / 256 % 256), .int .u8 (z / 65536 % 256), .int .u8 (z / 16777216 % 256)] 5))
      refine RG.wpL_step (i := 20) (by kernel_rfl) (by rfl) (by rfl) (fun KX hK => ?_)
      have HK := TW.hide hK
      clear hK
      go_simp
      refine HK.out _ _ ⟨A0.out, AB.out⟩ (fun _ => trivial) ?_
      clear HK KX
      have hgs : (Y.alloc (.cells #[.int .u8 (z % 256), .int .u8 (z / 256 % 256), .int .u8 (z / 65536 % 256), .int .u8 (z / 16777216 % 256)] 5)).heap.size = Y.heap.size + 1 := by simp
      generalize Y.alloc (.cells #[.int .u8 (z % 256), .int .u8 (z / 256 % 256), .int .u8 (z / 65536 % 256), .int .u8 (z / 16777216 % 256)] 5) = Y2 at *
      generalize Y.heap.size = gy at *
      refine RG.wpL_step (i := 21) (by kernel_rfl) (by rfl) (by rfl) (fun KX hK => ?_)
      have HK := TW.hide hK
      clear hK
      refine wp_append_own _ _ _ 22 (by rfl) (B + 1) 5 i0 (.int .u8 0) 1 1 Tryd.underlying22 hi hz0 hz1 hz2 rfl (by decide) _ (4 * k) _ (by rfl) AO.out ⟨gy, 0, none⟩ 4 4 [.int .u8 (z % 256), .int .u8 (z / 256 % 256), .int .u8 (z / 65536 % 256), .int .u8 (z / 16777216 % 256)] (by rfl) rfl ?c1 ?c2 ?c3 ?c4 ?c5 ?_
      case c1 => exact fun j u hj => by rw [Addr.add_mid, Nat.zero_add]; exact blk_cell AN.out (by simpa using hj)
      case c2 => intro u hu; simp at hu; rcases hu with rfl | rfl | rfl | rfl <;> rfl
      case c3 => unfold maxLen; omega
      case c4 => omega
      case c5 => omega
      intro v' w2 hown' hgrow' _
      have hob := LW.own_block AO.out
      have Z0 := TW.hide (grown_keep5 A0.out hgrow' (fun h => by have := hob _ h; omega))
      have ZB : Hid (Below B w w2) := AB.out.grown hgrow' (by omega) (fun k hk => by have := hob k hk; omega)
      have ZO : Hid (w2.ownsRow (B + 1) 5 1 v' (4 * (k + 1)) (LW.vs (bytesL (hs.take (k + 1))))) := by
        show w2.ownsRow _ _ _ _ _ _
        rw [HSN.out, LW.vs_append, show 4 * (k + 1) = 4 * k + 4 by omega]; exact hown'
      clear hown' hgrow' hob
      simp only [Act.put, List.setIfInBounds_toArray, List.set_cons_zero, List.set_cons_succ, List.getElem_toArray, List.getElem_cons_zero, List.getElem_cons_succ]
      refine HK.out _ _ ⟨Z0.out, ZB.out⟩ (fun _ => trivial) ?_
      clear HK KX
      refine RG.wpL_step (i := 22) (by kernel_rfl) (by rfl) (by rfl) (fun KX hK => ?_)
      have HK := TW.hide hK
      clear hK
      go_simp
      refine HK.out _ _ ⟨Z0.out, ZB.out⟩ (fun _ => trivial) ?_
      clear HK KX
      refine RG.wpL_done (by kernel_rfl) ?_ _
      refine NoPanic.normal ?_
      go_wp2
      go_roundw
      case rel => exact ⟨k + 1, by omega, by go_num, Z0.out, ZO.out, ZB.out⟩
      case measure => simp [intOf]; omega
    · obtain rfl : k = 8 := by omega
      have hfull : hs.take 8 = hs := List.take_of_length_le (by omega)
      rw [hfull] at hown
      have NO := TW.hide hown
      have NB := TW.hide hb
      clear n0 hown hb
      go_wp2
      go_ret
      exact ⟨_, rfl, own_base5 NO.out (by omega), NB.out⟩
end MX
end Go.Proofs.YtecepllidmkmhaaDoor
