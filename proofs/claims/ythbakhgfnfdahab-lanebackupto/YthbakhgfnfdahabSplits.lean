/-
  What the program's split gives: each lane's bytes in a row of its own.
-/
import Derived.Test.YthbakhgfnfdahabDeal
import Derived.Test.YthbakhgfnfdahabPlain
namespace Go.Proofs.Ythbakhgfnfdahab
open Go.RowKit Go.ChangeShapes
set_option linter.unusedVariables false
set_option linter.unusedSimpArgs false
namespace LW
open Words
theorem kb {k : Int} (hk : k = 1 ∨ k = 2) : KB (nl k) (bb k) := by
  rcases hk with rfl | rfl
  · exact .inl ⟨by decide, by decide⟩
  · exact .inr ⟨by decide, by decide⟩
set_option maxRecDepth 100000 in
set_option maxHeartbeats 4000000 in
theorem split (k d y : Int) (s p : Value) (a : Option Addr) (cap : Nat) (zs : List Int) (w : World) (hk : k = 1 ∨ k = 2) (hr : Row w a zs) (hcap : zs.length ≤ cap) (hm : zs.length ≤ 140737488351232) :
    Calls Try.prog 9 #[.agg (shC k d y s p), .slice a zs.length cap] w fun e w' => ∃ g qs, e = .returned (.slice (some ⟨g, 0, none⟩) (nl k) (nl k)) ∧ Lst w' w.heap.size g (nl k) (laL (bb k) zs) (nl k) qs ∧ w.heap.size ≤ g ∧ Below w.heap.size w w' := by
  obtain ⟨i0, hi, hz0, hz1, hz2⟩ := info_parts info5
  obtain ⟨i2, hi2, hy0, hy1, hy2⟩ := info_parts info24
  have hKB := kb hk
  have hl := fun W => lanes k d y s p W
  have hbb := fun W => blockBytes k d y s p W
  have hrb := fun W => roundBytes k d y s p W hk
  have hlb := fun (i : Nat) (hi : i ≤ 8) W => laneBytes k d y s p i zs.length W hk hi (by omega)
  have hcl : 0 < zs.length → ∃ b off, a = some ⟨b, off, none⟩ ∧ ∀ (W : World) (o n : Nat), Below w.heap.size w W → o + n ≤ zs.length → Row W (some ⟨b, off + o, none⟩) ((zs.drop o).take n) := by
    intro h
    have hr' := hr
    rcases hr with rfl | ⟨b, off, rfl, hc⟩
    · simp at h
    · exact ⟨b, off, rfl, fun W o n hW hn => (hr'.below hW).sub o n hn⟩
  clear hr
  generalize nl k = n at *
  generalize bb k = B at *
  clear hk
  have hB : B ≤ 128 ∧ n ≤ 8 ∧ 0 < B ∧ 0 < n := by rcases hKB with ⟨rfl, rfl⟩ | ⟨rfl, rfl⟩ <;> omega
  have hblk := fun (r l : Nat) (h : l < n) => laL_block (r := r) (l := l) (zs := zs) hKB h
  have hend := fun (r l : Nat) (h : l < n) (h2 : zs.length ≤ l * B + 512 * r) => laL_end (r := r) (l := l) (zs := zs) hKB h h2
  have hcnt := fun l => cnt_le (l := l) (T := zs.length) hKB
  have hlB : ∀ l, l < n → l * B ≤ 448 := fun l h => by rcases hKB with ⟨rfl, rfl⟩ | ⟨rfl, rfl⟩ <;> omega
  have hlL := fun l => laL_length B zs l
  obtain ⟨len, hlen⟩ : ∃ len, zs.length = len := ⟨_, rfl⟩
  rw [hlen] at hlb hcap hm ⊢
  simp only [hlen] at hcl hend hcnt hlL
  have HLEN := TW.hide hlen
  have HL := TW.hide hl
  have HBB := TW.hide hbb
  have HRB := TW.hide hrb
  have HLB := TW.hide hlb
  have HCL := TW.hide hcl
  have HBK := TW.hide hblk
  have HEN := TW.hide hend
  have HLN := TW.hide hlL
  obtain ⟨hB1, hB2, hB3, hB4⟩ := hB
  clear hl hbb hrb hlb hcl hblk hend hlen hKB hlL
  unfold shC at *
  go_enter Try.func9, Try.ntmps9
  refine wp_seq_k fun K hK => ?_
  have HK := TW.hide hK
  clear hK
  go_wp2
  refine HK.out _ _ ?_
  clear HK K
  have n0 := heap_alloc_new w (.cells #[.int .i64 k, .int .i64 d, .int .i64 y, s, p] 36)
  have hb := (Below.refl w.heap.size w).alloc (Nat.le_refl _) (.cells #[.int .i64 k, .int .i64 d, .int .i64 y, s, p] 36)
  generalize w.alloc _ = W at n0 hb ⊢
  have hE := blk_lt n0
  refine wp_seq_k fun K hK => ?_
  have HK := TW.hide hK
  clear hK
  obtain ⟨c0, c1, c2, c3, c4⟩ := cells5 n0
  have N0 := TW.hide n0
  have B0 := TW.hide hb
  clear n0 hb
  go_wp2_with fail
  refine (HL.out _).mono ?_
  rintro e w1 ⟨rfl, hb1⟩
  have N1 := TW.hide (blk_keep N0.out hb1)
  have B1 : Hid (Below w.heap.size w w1) := below_row B0.out hb1 (by omega)
  have hE1 := blk_lt N1.out
  clear hb1 N0 B0 c0 c1 c2 c3 c4
  go_wp2_with (at_make; refine wpList_make_full _ rfl _ _ 23 rfl w1.heap.size 22 i2 (.slice none 0 0) 1 Try.underlying23 hi2 hy0 hy1 _ _ _ _ n rfl rfl rfl rfl (by rw [hy2]; omega) (by unfold maxLen; omega) (Nat.le_refl _) ?_; intro w2 hown hgrow; have O2 := TW.hide hown; have G2 := TW.hide hgrow; clear hown hgrow)
  refine HK.out _ _ ?_
  clear HK K
  have hgw : w.heap.size < w1.heap.size := hE1
  have hfull := own_full O2.out
  rw [made_nils] at hfull
  have LS : Hid (Lst w2 w.heap.size w1.heap.size n (laL B zs) 0 (List.replicate n (.slice none 0 0))) := Lst.zero hfull.1 (by simp)
  have N2 : Hid (w2.heap[w.heap.size]? = some (.cells #[.int .i64 k, .int .i64 d, .int .i64 y, s, p] 36 (0, 0))) := by show _ = _; rw [G2.out.block _ hE1 (by simp)]; exact N1.out
  have B2 : Hid (Below w.heap.size w w2) := B1.out.grown G2.out (by omega) (by intro k h; cases h)
  clear hfull O2 G2 N1 B1
  generalize w1.heap.size = g at *
  obtain ⟨c0, c1, c2, c3, c4⟩ := cells5 N2.out
  go_wp2_with fail
  refine (HL.out _).mono ?_
  rintro e w3 ⟨rfl, hb3⟩
  have L3 := TW.hide (LS.out.below hb3)
  have N3 := TW.hide (blk_keep N2.out hb3)
  have B3 : Hid (Below w.heap.size w w3) := below_row B2.out hb3 B2.out.size
  clear hb3 LS N2 B2 c0 c1 c2 c3 c4
  go_wp2
  go_loopw [14] (fun i wr => ∃ (x : Nat) (qs : List Value), x ≤ n ∧ i = .int .i64 x ∧ Lst wr w.heap.size g n (laL B zs) x qs ∧ wr.heap[w.heap.size]? = some (.cells #[.int .i64 k, .int .i64 d, .int .i64 y, s, p] 36 (0, 0)) ∧ Below w.heap.size w wr) (fun i _ => n - (intOf i).toNat)
  case atStart => exact ⟨0, _, Nat.zero_le _, rfl, L3.out, N3.out, B3.out⟩
  case round =>
    obtain ⟨x, qs, hx, rfl, hls, hnb, hbl⟩ := hrel
    clear L3 N3 B3
    by_cases hxn : x < n
    · obtain ⟨c0, c1, c2, c3, c4⟩ := cells5 hnb
      have LS := TW.hide hls
      have NB := TW.hide hnb
      have BL := TW.hide hbl
      have hxI : (0 : Int) ≤ (x : Int) := Int.natCast_nonneg _
      have hxJ : (x : Int) < (n : Int) := by omega
      have hxB := hlB x hxn
      have hcx := hcnt x
      clear hls hnb hbl
      obtain ⟨m, hm1⟩ : ∃ m, cnt B x len = m := ⟨_, rfl⟩
      obtain ⟨j, hj1⟩ : ∃ j, x * B = j := ⟨_, rfl⟩
      have HLBX := TW.hide (fun W => HLB.out x (by omega) W)
      rw [hm1] at HLBX hcx
      have hmul : (x : Int) * (B : Int) = (j : Int) := by rw [← hj1]; simp
      rw [hj1] at hxB
      have HM1 := TW.hide hm1
      have HJ1 := TW.hide hj1
      clear hm1 hj1
      have wj : IntKind.i64.wrap (j : Int) = j := by rw [IntKind.wrap_i64]; omega
      go_wp2_with fail
      refine (HLBX.out _).mono ?_
      rintro e w1 ⟨rfl, hb1⟩
      have LS1 := TW.hide (LS.out.below hb1)
      have NB1 := TW.hide (blk_keep NB.out hb1)
      have BL1 : Hid (Below w.heap.size w w1) := below_row BL.out hb1 BL.out.size
      have hgl := LS1.out.lt
      have hql : qs.length = n := LS1.out.2.1
      have HQL := TW.hide hql
      have hbw := BL1.out.size
      clear hb1 LS NB BL c0 c1 c2 c3 c4 hql
      obtain ⟨v1, hv1⟩ : ∃ v1, qs[x]? = some v1 := ⟨_, List.getElem?_eq_getElem (by rw [HQL.out]; exact hxn)⟩
      have HV1 := TW.hide hv1
      clear hv1
      have FM : Hid (∀ w2 : World, w2.ownsRow w1.heap.size 5 1 (.slice (some ⟨w1.heap.size, 0, none⟩) 0 m) 0 [] → w1.grownBy w2 none →
          Ist w1 (w2.setCell ⟨g, x, none⟩ (.slice (some ⟨w1.heap.size, 0, none⟩) 0 m)) g x qs (.slice (some ⟨w1.heap.size, 0, none⟩) 0 m) [] ∧ (w2.cell? ⟨g, x, none⟩ = some v1 ∧ w2.frozen? ⟨g, x, none⟩ = false) ∧
          (w2.setCell ⟨g, x, none⟩ (.slice (some ⟨w1.heap.size, 0, none⟩) 0 m)).heap[w.heap.size]? = some (.cells #[.int .i64 k, .int .i64 d, .int .i64 y, s, p] 36 (0, 0)) ∧ Below w.heap.size w (w2.setCell ⟨g, x, none⟩ (.slice (some ⟨w1.heap.size, 0, none⟩) 0 m))) := by
        intro w2 hown hgrow
        refine ⟨Ist.begin (c := 0) LS1.out hown hgrow, ref_cell (w := w2) (by rw [hgrow.block g hgl (by simp)]; exact LS1.out.1) HV1.out, ?_, ?_⟩
        · rw [Below.heap_setCell _ _ _ _ (by simp only; omega), hgrow.block _ (by omega) (by simp)]; exact NB1.out
        · exact (BL1.out.grown hgrow hbw (by intro k h; cases h)).setCell (by simp only; omega) _
      go_wp2_with (at_make; refine wpList_make_own _ rfl _ _ 22 rfl w1.heap.size 5 i0 (.int .u8 0) 1 Try.underlying22 hi hz0 hz1 _ _ _ m rfl rfl rfl (by rw [hz2]; omega) (by unfold maxLen; omega) (Nat.le_refl _) ?_; intro w2 hown hgrow; obtain ⟨hI2, ⟨hc2, hf2⟩, hn2, hb2⟩ := FM.out w2 hown hgrow; obtain ⟨c0, c1, c2, c3, c4⟩ := cells5 hn2; have I2 := TW.hide hI2; have NB2 := TW.hide hn2; have BL2 := TW.hide hb2; clear hown hgrow hn2 hI2 hb2)
      clear hc2 hf2 FM
      generalize w2.setCell ⟨g, x, none⟩ (.slice (some ⟨w1.heap.size, 0, none⟩) 0 m) = X2 at *
      refine (HBB.out _).mono ?_
      rintro e w3 ⟨rfl, hb3⟩
      have I3 := TW.hide (I2.out.below hb3)
      have NB3 := TW.hide (blk_keep NB2.out hb3)
      have BL3 : Hid (Below w.heap.size w w3) := below_row BL2.out hb3 BL2.out.size
      clear hb3 I2 NB2 BL2 c0 c1 c2 c3 c4
      go_wp2
      obtain ⟨wo, hwo⟩ : ∃ wo : World, wo = wr := ⟨_, rfl⟩
      subst hwo
      go_loopw [7] (fun t wr => ∃ (r q : Nat) (v : Value), t = .int .i64 (q : Int) ∧ q = j + 512 * r ∧ q ≤ len + 512 + j ∧ Ist w1 wr g x qs v ((laL B zs x).take (r * B)) ∧ wr.heap[w.heap.size]? = some (.cells #[.int .i64 k, .int .i64 d, .int .i64 y, s, p] 36 (0, 0)) ∧ Below w.heap.size w wr) (fun t _ => len + 2048 - (intOf t).toNat)
      case atStart => exact ⟨0, j, _, rfl, by omega, by omega, by simpa using I3.out, NB3.out, BL3.out⟩
      case round =>
        obtain ⟨r, q, v, rfl, hq, hq2, hI, hnb, hbl⟩ := hrel
        clear I3 NB3 BL3
        have hbw2 := hbl.size
        obtain ⟨c0, c1, c2, c3, c4⟩ := cells5 hnb
        have II := TW.hide hI
        have NB := TW.hide hnb
        have BL := TW.hide hbl
        have HQ := TW.hide hq
        clear hI hnb hbl hq
        by_cases hql : q < len
        · have hqI : (q : Int) < (len : Int) := by omega
          obtain ⟨b, off, rfl, hsub⟩ := HCL.out (by omega)
          have wq : IntKind.i64.wrap ((q : Int) + (B : Int)) = (q : Int) + (B : Int) := by rw [IntKind.wrap_i64]; omega
          go_wp2_with fail
          refine (HBB.out _).mono ?_
          rintro e w4 ⟨rfl, hb4⟩
          have II4 := TW.hide (II.out.below hb4)
          have NB4 := TW.hide (blk_keep NB.out hb4)
          have BL4 : Hid (Below w.heap.size w w4) := below_row BL.out hb4 BL.out.size
          clear hb4 II NB BL c0 c1 c2 c3 c4
          obtain ⟨z, hz⟩ : ∃ z : Nat, min (q + B) len = z := ⟨_, rfl⟩
          have hmin : min ((q : Int) + (B : Int)) (len : Int) = (z : Int) := by omega
          have hz1 : z ≤ len := by omega
          have hz2' : q < z := by omega
          have HZ := TW.hide hz
          clear hz
          go_wp2
          refine wp_region_noPanic ?_
          refine RG.wp_region_L (fun Z => Z.cell? ⟨g, x, none⟩ = some v) (fun Z => True) [12] (by kernel_rfl) ?_
          refine RG.wpL_any fun Y hY => ?_
          have IY : Hid (Ist w1 Y g x qs v ((laL B zs x).take (r * B))) := by rw [hY]; exact II4.out.below (below_drewN (Below.refl _ _) 1)
          have NY : Hid (Y.heap[w.heap.size]? = some (.cells #[.int .i64 k, .int .i64 d, .int .i64 y, s, p] 36 (0, 0))) := by rw [hY]; exact NB4.out
          have BY : Hid (Below w.heap.size w Y) := by rw [hY]; exact below_drewN BL4.out 1
          clear hY II4 NB4 BL4
          have hqz : (q : Int) ≤ (z : Int) := by omega
          have hzc : (z : Int) ≤ (cap : Int) := by omega
          have hq0 : (0 : Int) ≤ (q : Int) := Int.natCast_nonneg _
          have hcq : ¬ cap = q := by omega
          refine RG.wpL_take (fuel := 3) (a' := ?At) [0, 1, 2, 3, 4, 5, 6, 7, 8, 9] (by kernel_rfl) (by kernel_rfl) (fun _ _ _ _ _ h => h) trivial (fun _ => (IY.out.cell (by rw [HQL.out]; exact hxn)).1) ?rt ?_
          case rt =>
            refine RG.RunsIf.weak (v := ?_) (by rfl) (by rfl) (fun Z hT => ?_) ?_
            rotate_left
            · go_simp
              rfl
            simp only [Act.put, List.setIfInBounds_toArray, List.set_cons_zero, List.set_cons_succ, List.getElem_toArray, List.getElem_cons_zero, List.getElem_cons_succ]
            refine RG.RunsIf.weak (v := ?_) (by rfl) (by rfl) (fun Z hT => ?_) ?_
            rotate_left
            · go_simp
              rfl
            simp only [Act.put, List.setIfInBounds_toArray, List.set_cons_zero, List.set_cons_succ, List.getElem_toArray, List.getElem_cons_zero, List.getElem_cons_succ]
            refine RG.RunsIf.weak (v := ?_) (by rfl) (by rfl) (fun Z hT => ?_) ?_
            rotate_left
            · go_simp
              rfl
            simp only [Act.put, List.setIfInBounds_toArray, List.set_cons_zero, List.set_cons_succ, List.getElem_toArray, List.getElem_cons_zero, List.getElem_cons_succ]
            refine RG.RunsIf.weak (v := ?_) (by rfl) (by rfl) (fun Z hT => ?_) ?_
            rotate_left
            · go_simp
              rfl
            simp only [Act.put, List.setIfInBounds_toArray, List.set_cons_zero, List.set_cons_succ, List.getElem_toArray, List.getElem_cons_zero, List.getElem_cons_succ]
            refine RG.RunsIf.weak (v := ?_) (by rfl) (by rfl) (fun Z hT => ?_) ?_
            rotate_left
            · go_simp
              rfl
            simp only [Act.put, List.setIfInBounds_toArray, List.set_cons_zero, List.set_cons_succ, List.getElem_toArray, List.getElem_cons_zero, List.getElem_cons_succ]
            refine RG.RunsIf.strong (v := v) (by rfl) (by kernel_rfl) (by rfl) (fun Z hT hS => ?_) ?_
            · have cz : Z.cell? ⟨g, x, none⟩ = some v := hS
              go_simp
            simp only [Act.put, List.setIfInBounds_toArray, List.set_cons_zero, List.set_cons_succ, List.getElem_toArray, List.getElem_cons_zero, List.getElem_cons_succ]
            refine RG.RunsIf.weak (v := ?_) (by rfl) (by rfl) (fun Z hT => ?_) ?_
            rotate_left
            · go_simp
              rfl
            simp only [Act.put, List.setIfInBounds_toArray, List.set_cons_zero, List.set_cons_succ, List.getElem_toArray, List.getElem_cons_zero, List.getElem_cons_succ]
            refine RG.RunsIf.weak (v := ?_) (by rfl) (by rfl) (fun Z hT => ?_) ?_
            rotate_left
            · go_simp
              rfl
            simp only [Act.put, List.setIfInBounds_toArray, List.set_cons_zero, List.set_cons_succ, List.getElem_toArray, List.getElem_cons_zero, List.getElem_cons_succ]
            refine RG.RunsIf.weak (v := ?_) (by rfl) (by rfl) (fun Z hT => ?_) ?_
            rotate_left
            · go_simp
              rfl
            simp only [Act.put, List.setIfInBounds_toArray, List.set_cons_zero, List.set_cons_succ, List.getElem_toArray, List.getElem_cons_zero, List.getElem_cons_succ]
            refine RG.RunsIf.weak (v := .slice (some ⟨b, off + q, none⟩) (z - q) (cap - q)) (by rfl) (by rfl) (fun Z hT => ?_) ?_
            · go_simp
            simp only [Act.put, List.setIfInBounds_toArray, List.set_cons_zero, List.set_cons_succ, List.getElem_toArray, List.getElem_cons_zero, List.getElem_cons_succ]
            exact RG.RunsIf.nil
          have hzl : ((zs.drop q).take (z - q)).length = z - q := by rw [List.length_take, List.length_drop, HLEN.out]; omega
          have HZL := TW.hide hzl
          have RZ := TW.hide (hsub Y q (z - q) BY.out (by omega))
          have HN : Hid ((laL B zs x).take (r * B) ++ (zs.drop q).take (z - q) = (laL B zs x).take ((r + 1) * B)) := by
            show _ = _
            have h1 := HBK.out r x hxn
            rw [HJ1.out, ← HQ.out] at h1
            rw [h1]
            congr 1
            rw [List.take_eq_take_iff, List.length_drop, HLEN.out]
            have := HZ.out
            omega
          have hyl : ((laL B zs x).take (r * B)).length ≤ 140737488351232 := by rw [List.length_take, HLN.out, HM1.out]; omega
          obtain ⟨ys, hys⟩ : ∃ ys, (laL B zs x).take (r * B) = ys := ⟨_, rfl⟩
          rw [hys] at IY HN hyl
          clear hzl hsub hys
          refine RG.wpL_step (i := 10) (by kernel_rfl) (by rfl) (by rfl) (fun KX hK => ?_)
          have HK := TW.hide hK
          clear hK
          refine wp_append_bytes _ _ (by rfl) w1.heap.size v ys.length ys (by rfl) IY.out.own ⟨b, off + q, none⟩ (cap - q) (z - q) ((zs.drop q).take (z - q)) HZL.out (by rfl) RZ.out (by omega) IY.out.gr.size ?_
          intro v' w5 hown5 hgr5 _
          obtain ⟨av, cv, hv'⟩ := own_form hown5
          have hc5 := ref_cell (IY.out.keep hgr5 hgl) (v := v) (i := x) (by simp [HQL.out, hxn])
          have I5 : Hid (Ist w1 (w5.setCell ⟨g, x, none⟩ v') g x qs v' ((laL B zs x).take ((r + 1) * B))) := by
            show Ist _ _ _ _ _ _ _
            rw [← HN.out]
            exact IY.out.step (by rw [HZL.out]; exact hown5) hgr5 hgl (by rw [HQL.out]; exact hxn)
          have hw5g : w.heap.size < Y.heap.size := blk_lt NY.out
          have N5 : Hid ((w5.setCell ⟨g, x, none⟩ v').heap[w.heap.size]? = some (.cells #[.int .i64 k, .int .i64 d, .int .i64 y, s, p] 36 (0, 0))) := by
            show _ = _
            rw [Below.heap_setCell _ _ _ _ (by simp only; omega), hgr5.block _ hw5g (fun e => by have := own_lt IY.out.own e.symm; omega)]
            exact NY.out
          have B5 : Hid (Below w.heap.size w (w5.setCell ⟨g, x, none⟩ v')) := (BY.out.grown hgr5 BY.out.size (fun k hk => by have := own_lt IY.out.own hk; omega)).setCell (by simp only; omega) _
          obtain ⟨hc5, hf5⟩ := hc5
          refine HK.out _ _ trivial (fun _ => hc5) ?_
          clear HK KX hown5 hgr5 IY NY BY RZ
          rw [hv'] at I5 N5 B5 ⊢
          clear hv'
          simp only [Act.put, List.setIfInBounds_toArray, List.set_cons_zero, List.set_cons_succ, List.getElem_toArray, List.getElem_cons_zero, List.getElem_cons_succ]
          refine RG.wpL_take (fuel := 1) (a' := ?Au) [11] (by kernel_rfl) (by kernel_rfl) (fun _ _ _ _ _ h => h) trivial (fun _ => hc5) ?ru ?_
          case ru =>
            refine RG.RunsIf.weak (v := ?_) (by rfl) (by rfl) (fun Z hT => ?_) ?_
            rotate_left
            · go_simp
              rfl
            simp only [Act.put, List.setIfInBounds_toArray, List.set_cons_zero, List.set_cons_succ, List.getElem_toArray, List.getElem_cons_zero, List.getElem_cons_succ]
            exact RG.RunsIf.nil
          refine RG.wpL_late (i := 12) (by kernel_rfl) (by rfl) (by rfl) (by kernel_rfl) (fun KX hK => ?_)
          have HK := TW.hide hK
          clear hK
          go_simp
          refine HK.out _ _ trivial ?_
          clear HK KX hc5 hf5
          refine RG.wpL_done (by kernel_rfl) ?_ _
          refine NoPanic.normal ?_
          generalize w5.setCell _ _ = X5 at *
          obtain ⟨c0, c1, c2, c3, c4⟩ := cells5 N5.out
          go_wp2_with fail
          refine (HRB.out _).mono ?_
          rintro e w6 ⟨rfl, hb6⟩
          have I6 := TW.hide (I5.out.below hb6)
          have N6 := TW.hide (blk_keep N5.out hb6)
          have B6 : Hid (Below w.heap.size w w6) := below_row B5.out hb6 B5.out.size
          clear hb6 I5 N5 B5 c0 c1 c2 c3 c4
          have w512 : IntKind.i64.wrap ((q : Int) + 512) = (q : Int) + 512 := by rw [IntKind.wrap_i64]; omega
          go_wp2
          go_roundw
          case rel => exact ⟨r + 1, q + 512, _, by go_num, by have := HQ.out; omega, by omega, I6.out, N6.out, B6.out⟩
          case measure => simp [intOf]; omega
        · have hqI : ¬ (q : Int) < (len : Int) := by omega
          have LS5 : Hid (Lst wr w.heap.size g n (laL B zs) (x + 1) (qs.set x v)) := by
            have h1 := II.out
            rw [HEN.out r x hxn (by rw [HJ1.out]; have := HQ.out; omega)] at h1
            exact h1.done LS1.out hxn hbw
          go_wp2
          go_roundw
          case rel => exact ⟨x + 1, _, by omega, by go_num, LS5.out, NB.out, BL.out⟩
          case measure => simp [intOf]; omega
    · obtain rfl : x = n := by omega
      go_wp2
      go_ret
      exact ⟨g, qs, rfl, hls, by omega, hbl⟩
end LW
end Go.Proofs.Ythbakhgfnfdahab
