/-
  What the calls Bytes (the program, the document) give, for all words; a copy of any bytes.
-/
import Derived.Test.YtkilackhomhpgaaDoorStarts
namespace Go.Proofs.YtkilackhomhpgaaDoor
open Go.RowKit
set_option linter.unusedVariables false
set_option linter.unusedSimpArgs false
namespace MX
open Turn
attribute [local go_sem ↓] Go.wp_at_zero Go.wp_at_succ
open Words
/-- The bytes of a row of words. -/
def bytesL (hs : List Int) : List Int := hs.flatMap fun x => un x 8
theorem bytesL_snoc (hs : List Int) (k : Nat) (h : k < hs.length) : bytesL (hs.take (k + 1)) = bytesL (hs.take k) ++ un (hs.getD k 0) 8 := by
  unfold bytesL
  rw [LW.take_snoc hs k h, List.flatMap_append]
  simp
theorem bytesL_length (hs : List Int) : (bytesL hs).length = 8 * hs.length := by
  induction hs with
  | nil => rfl
  | cons x l ih => simp only [bytesL, List.flatMap_cons, List.length_append, un_length] at ih ⊢; simp only [List.length_cons]; omega
theorem bytesL_Byt (hs : List Int) : Byt (bytesL hs) := by
  induction hs with
  | nil => exact Byt.nil
  | cons x l ih => exact Byt.append (Byt.un x 8) ih
theorem own_below {w w' : World} {B n : Nat} {v : Value} {xs : List Value} (h : w.ownsRow B 5 1 v n xs) (hb : Below w.heap.size w w') : w'.ownsRow B 5 1 v n xs := by
  rcases h.2 with ⟨rfl, h0⟩ | ⟨g, cap, cur, rfl, hg, hh, hn, hm, hc, ht⟩
  · exact ⟨h.1, .inl ⟨rfl, h0⟩⟩
  · exact ⟨h.1, .inr ⟨g, cap, cur, rfl, hg, blk_keep hh hb, hn, hm, hc, ht⟩⟩
theorem grown_keep {w w' : World} {row : Option Nat} {b : Nat} {o : Obj} (h : w.heap[b]? = some o) (hg : w.grownBy w' row) (hne : row ≠ some b) : w'.heap[b]? = some o := by
  rw [hg.block b (blk_lt h) (Ne.symm hne)]; exact h
theorem row_at {w : World} {a : Option Addr} {zs : List Int} (h : LW.Row w a zs) (hz : 0 < zs.length) : ∃ b off, a = some ⟨b, off, none⟩ ∧ ∀ (j : Nat) (u : Value), (LW.vs zs)[j]? = some u → w.cell? ((⟨b, off, none⟩ : Addr).add j) = some u := by
  rcases h with rfl | ⟨b, off, rfl, hc⟩
  · simp at hz
  · refine ⟨b, off, rfl, fun j u hj => ?_⟩
    have hlt : j < zs.length := by rw [← LW.vs_length zs]; exact (List.getElem?_eq_some_iff.1 hj).1
    have e : (⟨b, off, none⟩ : Addr).add j = ⟨b, off + j, none⟩ := by unfold Addr.add; split <;> simp_all
    rw [e, hc j hlt]
    rw [LW.vs_get zs j hlt] at hj
    exact hj
theorem oneCell_vs (zs : List Int) : ∀ u ∈ LW.vs zs, u.oneCell' = true := fun u hu => by
  simp [LW.vs] at hu
  obtain ⟨a, _, rfl⟩ := hu
  rfl
set_option maxRecDepth 100000 in
set_option maxHeartbeats 2000000 in
theorem bytes (hs : List Int) (w : World) (hl : hs.length = 8) (hW : Ws hs) :
    Calls Tryd.prog 18 #[.agg (K .u64 hs)] w fun e w' => ∃ a cap, e = .returned (.slice a 64 cap) ∧ LW.Row w' a (bytesL hs) ∧ Below w.heap.size w w' := by
  obtain ⟨i0, hi, hz0, hz1, hz2⟩ := info_parts LW.info5
  have ih := info23 hs hl
  have hb := ((Below.refl w.heap.size w).alloc (Nat.le_refl _) (.cells (K .u64 hs) 23))
  have n0 := (heap_new w (.cells (K .u64 hs) 23))
  have HI := TW.hide ih
  clear ih
  go_enter Tryd.func18, Tryd.ntmps18
  refine wp_seq_k fun K hK => ?_
  have HK := TW.hide hK
  clear hK
  go_wp2
  refine HK.out _ _ ?_
  clear HK K
  change Code.wp _ _ _ _ (w.alloc (.cells (K .u64 hs) 23))
  generalize hWW : w.alloc (.cells (K .u64 hs) 23) = W at hb n0 ⊢
  have hWs : W.heap.size = w.heap.size + 1 := by rw [← hWW]; simp
  clear hWW
  generalize hB : w.heap.size = B at *
  have N0 := TW.hide n0
  have NB := TW.hide hb
  clear n0 hb
  refine wp_seq_k fun KK hK => ?_
  have HK := TW.hide hK
  clear hK
  go_wp2_with (at_make; refine wpList_make_own _ rfl _ _ 30 rfl (B + 1) 5 i0 (.int .u8 0) 1 Tryd.underlying30 hi hz0 hz1 _ _ 64 64 rfl rfl rfl (by rw [hz2]; omega) (by unfold maxLen; omega) (by omega) ?_; intro w1 hown hgrow)
  have M0 := TW.hide (grown_keep N0.out hgrow (by intro h; cases h))
  have MB : Hid (Below B w w1) := NB.out.grown hgrow (by omega) (by intro k h; cases h)
  rw [hWs] at hown
  have MO := TW.hide hown
  have hsz1 : B + 1 ≤ w1.heap.size := by have := hgrow.size; omega
  clear hown hgrow N0 NB
  refine HK.out _ _ ?_
  clear HK KK
  go_wp2_with (refine wpList_load_row (by rfl) 23 _ (by rfl) (B) (by rfl) 23 (K .u64 hs) (0, 0) _ M0.out Tryd.underlying23 rfl HI.out ?_)
  go_loopw [3, 8] (fun b i wr => ∃ k : Nat, k ≤ 8 ∧ i = .int .i64 k ∧ wr.heap[B]? = some (.cells (K .u64 hs) 23 (0, 0)) ∧ wr.ownsRow (B + 1) 5 1 b (8 * k) (LW.vs (bytesL (hs.take k))) ∧ B + 1 ≤ wr.heap.size ∧ Below B w wr) (fun _ i _ => 8 - (intOf i).toNat)
  case atStart => exact ⟨0, Nat.zero_le _, rfl, M0.out, MO.out, hsz1, MB.out⟩
  case round =>
    obtain ⟨k, hk, rfl, n0, hown, hs1, hb⟩ := hrel
    clear M0 MB MO hsz1 hWs W
    by_cases hlt : k < 8
    · have hx : ∀ X, (Instr.index 23 (.agg (K .u64 hs)) (.int .i64 (k : Int))).run Tryd.prog X = .ok (.int .u64 (hs.getD k 0)) X := fun X =>
        run_index_cell 23 22 8 _ _ k _ X Tryd.underlying23 Tryd.underlying22 rfl (by kernel_rfl) hlt (K_get .u64 hs k (by omega))
      have hsn := bytesL_snoc hs k (by omega)
      have hzw := hW.get k
      have hst := fun X => LW.store64 (hs.getD k 0) X hzw.1 hzw.2
      generalize hs.getD k 0 = z at *
      have HSN := TW.hide hsn
      have HST := TW.hide hst
      have N0 := TW.hide n0
      have NO := TW.hide hown
      have NB := TW.hide hb
      clear hsn hst n0 hown hb hzw
      go_wp2_with fail
      refine (HST.out _).mono ?_
      rintro e w1 ⟨aa, cap, rfl, hrow, hb1⟩
      obtain ⟨ab, aoff, rfl, hcell⟩ := row_at hrow (by rw [un_length]; omega)
      have HCELL := TW.hide hcell
      have HW := TW.hide (own_below NO.out hb1)
      have HBX := TW.hide (blk_keep N0.out hb1)
      have HBW : Hid (Below B w w1) := below_row NB.out hb1 (by omega)
      have hs2 : B + 1 ≤ w1.heap.size := Nat.le_trans hs1 hb1.size
      clear hrow hcell hb1 NO N0 NB
      have hl8 : (bytesL (hs.take k)).length = 8 * k := by rw [bytesL_length, List.length_take]; omega
      go_wp2_with (at_builtin; refine wpList_append_own _ rfl _ _ 30 rfl (B + 1) 5 i0 (.int .u8 0) 1 1 Tryd.underlying30 hi hz0 hz1 hz2 rfl (by decide) _ _ _ rfl HW.out ⟨ab, aoff, none⟩ 8 cap (LW.vs (un z 8)) rfl ?c0 ?c1 ?c2 ?c3 ?c4 ?c5 ?_)
      case c0 => rw [LW.vs_length, un_length]
      case c1 => exact HCELL.out
      case c2 => exact oneCell_vs _
      case c3 => unfold maxLen; omega
      case c4 => omega
      case c5 => have := HBW.out.size; omega
      intro v' w2 hown' hgrow' _
      have hbel2 : Hid (Below B w w2) := HBW.out.grown hgrow' (by have := HBW.out.size; omega) (fun k hk => by have := LW.own_block HW.out k hk; omega)
      have hown2 : Hid (w2.ownsRow (B + 1) 5 1 v' (8 * (k + 1)) (LW.vs (bytesL (hs.take (k + 1))))) := by
        show w2.ownsRow _ _ _ _ _ _
        rw [HSN.out, LW.vs_append, show 8 * (k + 1) = 8 * k + 8 by omega]; exact hown'
      have hbox2 : Hid (w2.heap[B]? = some (.cells (K .u64 hs) 23 (0, 0))) := grown_keep HBX.out hgrow' (fun h => by have := LW.own_block HW.out B h; omega)
      clear hown' hgrow' HW HBW HBX HCELL
      go_wp2
      go_roundw
      case rel => exact ⟨k + 1, by omega, by go_num, hbox2.out, hown2.out, by have := blk_lt hbox2.out; have := hbel2.out.size; omega, hbel2.out⟩
      case measure => simp [intOf]; omega
    · obtain rfl : k = 8 := by omega
      have hfull : hs.take 8 = hs := List.take_of_length_le (by omega)
      rw [hfull] at hown
      have NO := TW.hide hown
      have NB := TW.hide hb
      clear n0 hown hb
      go_wp2
      go_ret
      have hlen : (bytesL hs).length = 64 := by rw [bytesL_length, hl]
      have hr := LW.row_of_own (zs := bytesL hs) (by rw [hlen]; exact NO.out)
      obtain ⟨a, cap, he, hrow, _⟩ := hr
      rw [hlen] at he
      exact ⟨a, cap, congrArg Ending.returned he, hrow, NB.out⟩
set_option maxRecDepth 100000 in
set_option maxHeartbeats 2000000 in
theorem rbytes (hs : List Int) (w : World) (hl : hs.length = 8) (hW : Ws hs) :
    Calls Tryd.prog 19 #[.agg (K .u64 hs)] w fun e w' => ∃ a cap, e = .returned (.slice a 64 cap) ∧ LW.Row w' a (bytesL hs) ∧ Below w.heap.size w w' := by
  obtain ⟨i0, hi, hz0, hz1, hz2⟩ := info_parts LW.info5
  have hb := ((Below.refl w.heap.size w).alloc (Nat.le_refl _) (.cells (K .u64 hs) 23))
  have n0 := (heap_new w (.cells (K .u64 hs) 23))
  go_enter Tryd.func19, Tryd.ntmps19
  refine wp_seq_k fun K hK => ?_
  have HK := TW.hide hK
  clear hK
  go_wp2
  refine HK.out _ _ ?_
  clear HK K
  change Code.wp _ _ _ _ (w.alloc (.cells (K .u64 hs) 23))
  generalize hWW : w.alloc (.cells (K .u64 hs) 23) = W at hb n0 ⊢
  have hWs : W.heap.size = w.heap.size + 1 := by rw [← hWW]; simp
  clear hWW
  generalize hB : w.heap.size = B at *
  have M0 := TW.hide n0
  have MB := TW.hide hb
  clear n0 hb
  go_wp2
  go_loopw [3, 4] (fun b i wr => ∃ k : Nat, k ≤ 8 ∧ i = .int .i64 k ∧ wr.heap[B]? = some (.cells (K .u64 hs) 23 (0, 0)) ∧ wr.ownsRow (B + 1) 5 1 b (8 * k) (LW.vs (bytesL (hs.take k))) ∧ B + 1 ≤ wr.heap.size ∧ Below B w wr) (fun _ i _ => 8 - (intOf i).toNat)
  case atStart => exact ⟨0, Nat.zero_le _, rfl, M0.out, World.ownsRow_nil _ _ _ _, by omega, MB.out⟩
  case round =>
    obtain ⟨k, hk, rfl, n0, hown, hs1, hb⟩ := hrel
    clear M0 MB hWs W
    by_cases hlt : k < 8
    · have hc := blk_cellK n0 (i := k) (by omega)
      have hsn := bytesL_snoc hs k (by omega)
      have hzw := hW.get k
      have hst := fun X => LW.rstore (hs.getD k 0) 8 X hzw.1 hzw.2 (by omega)
      generalize hs.getD k 0 = z at *
      have HSN := TW.hide hsn
      have HST := TW.hide hst
      have N0 := TW.hide n0
      have NO := TW.hide hown
      have NB := TW.hide hb
      clear hsn hst n0 hown hb hzw
      have hk1 : (k : Int) < 8 := by omega
      go_wp2_with fail
      refine (HST.out _).mono ?_
      rintro e w1 ⟨aa, cap, rfl, hrow, hb1⟩
      obtain ⟨ab, aoff, rfl, hcell⟩ := row_at hrow (by rw [un_length]; omega)
      have HCELL := TW.hide hcell
      have HW := TW.hide (own_below NO.out hb1)
      have HBX := TW.hide (blk_keep N0.out hb1)
      have HBW : Hid (Below B w w1) := below_row NB.out hb1 (by omega)
      have hs2 : B + 1 ≤ w1.heap.size := Nat.le_trans hs1 hb1.size
      clear hrow hcell hb1 NO N0 NB hc
      have hl8 : (bytesL (hs.take k)).length = 8 * k := by rw [bytesL_length, List.length_take]; omega
      go_wp2_with (at_builtin; refine wpList_append_own _ rfl _ _ 30 rfl (B + 1) 5 i0 (.int .u8 0) 1 1 Tryd.underlying30 hi hz0 hz1 hz2 rfl (by decide) _ _ _ rfl HW.out ⟨ab, aoff, none⟩ 8 cap (LW.vs (un z 8)) rfl ?c0 ?c1 ?c2 ?c3 ?c4 ?c5 ?_)
      case c0 => rw [LW.vs_length, un_length]
      case c1 => exact HCELL.out
      case c2 => exact oneCell_vs _
      case c3 => unfold maxLen; omega
      case c4 => omega
      case c5 => have := HBW.out.size; omega
      intro v' w2 hown' hgrow' _
      have hbel2 : Hid (Below B w w2) := HBW.out.grown hgrow' (by have := HBW.out.size; omega) (fun k hk => by have := LW.own_block HW.out k hk; omega)
      have hown2 : Hid (w2.ownsRow (B + 1) 5 1 v' (8 * (k + 1)) (LW.vs (bytesL (hs.take (k + 1))))) := by
        show w2.ownsRow _ _ _ _ _ _
        rw [HSN.out, LW.vs_append, show 8 * (k + 1) = 8 * k + 8 by omega]; exact hown'
      have hbox2 : Hid (w2.heap[B]? = some (.cells (K .u64 hs) 23 (0, 0))) := grown_keep HBX.out hgrow' (fun h => by have := LW.own_block HW.out B h; omega)
      clear hown' hgrow' HW HBW HBX HCELL
      go_wp2
      go_roundw
      case rel => exact ⟨k + 1, by omega, by go_num, hbox2.out, hown2.out, by have := blk_lt hbox2.out; have := hbel2.out.size; omega, hbel2.out⟩
      case measure => simp [intOf]; omega
    · obtain rfl : k = 8 := by omega
      have hfull : hs.take 8 = hs := List.take_of_length_le (by omega)
      rw [hfull] at hown
      have NO := TW.hide hown
      have NB := TW.hide hb
      clear n0 hown hb
      go_wp2
      go_ret
      have hlen : (bytesL hs).length = 64 := by rw [bytesL_length, hl]
      have hr := LW.row_of_own (zs := bytesL hs) (by rw [hlen]; exact NO.out)
      obtain ⟨a, cap, he, hrow, _⟩ := hr
      rw [hlen] at he
      exact ⟨a, cap, congrArg Ending.returned he, hrow, NB.out⟩
end MX
end Go.Proofs.YtkilackhomhpgaaDoor
