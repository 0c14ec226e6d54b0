/-
  What the law MixsChains does: Chain of the program answers as the document's, and what it was handed stays.
-/
import Derived.Test.YtecepllidmkmhabDoorChainT
import Derived.Test.YtecepllidmkmhabDoorWide
import Derived.Test.YtecepllidmkmhabDoorPair
import Derived.Test.YtecepllidmkmhabDoorEql
namespace Go.Proofs.YtecepllidmkmhabDoor
open Go.RowKit
set_option linter.unusedVariables false
set_option linter.unusedSimpArgs false
namespace MX
open Turn
attribute [local go_sem ↓] Go.wp_at_zero Go.wp_at_succ
open Words
set_option maxRecDepth 100000 in
set_option maxHeartbeats 1000000 in
theorem chainsWalk (hs : List Int) (b : Option Addr) (cap : Nat) (zs : List Int) (n : Int) (w : World) (to : Tab w 1 .u8 ordL) (ti : Tab w 0 .u32 ivL) (hl : hs.length = 8) (hw : Ws hs) (hz : Byt zs) (hr : LW.Row w b zs) (hn : b = none → cap = 0) (hc : zs.length ≤ cap) (hm : zs.length ≤ 140737488351232) (wn : 0 ≤ n) (wn' : n ≤ 18446744073709551615) :
    Calls Tryd.prog 3 #[.agg (K .u32 hs), .slice b zs.length cap, .int .u64 n] w fun e w' => e = .returned (.bool true) ∧ Below w.heap.size w w' := by
  have ih := info8 hs hl
  have hRl := chR_ok n hl hw hz
  have p0 := fun Y (h : LW.Row Y b zs) => wide b cap zs Y h hn hm
  have p1 := fun Y (hb : Below w.heap.size w Y) (x : Option Addr) (cx : Nat) (h : LW.Row Y x zs) (hcx : zs.length ≤ cx) => chainT hs x cx zs n Y (ti.below hb) (to.below hb) hl hw hz h hcx hm wn (by omega)
  have p2 := fun Y (h : LW.Row Y b zs) => rchainT hs b cap zs n Y hl hw hz h hc hm wn (by omega)
  have p3 := fun Y (x : Option Addr) (cx : Nat) (h1 : LW.Row Y x (wideL zs)) (h2 : LW.Row Y b zs) => kept x b cx cap zs Y h1 h2 hn hm
  have hwl := wideL_length zs
  generalize chR hs zs n = R at *
  generalize chC zs n = c at *
  generalize chE zs = E at *
  have iR := info8 R hRl.1
  have oR := size8 (List.replicate 8 0) R rfl hRl.1
  have q1 := fun Z => eq8 Z R R hRl.1 hRl.1
  simp only [decide_true] at q1
  clear to ti hl hw hz hn hRl
  obtain ⟨len, hlen⟩ : ∃ len, zs.length = len := ⟨_, rfl⟩
  rw [hlen] at p0 p1 p2 p3 hwl hm ⊢
  have hlenm : len ≤ 140737488351232 := hm
  clear hlen hm hc
  have IH := TW.hide ih
  have IR := TW.hide iR
  have OR := TW.hide oR
  have Q1 := TW.hide q1
  have P0 := TW.hide p0
  have P1 := TW.hide p1
  have P2 := TW.hide p2
  have P3 := TW.hide p3
  have HR := TW.hide hr
  have HWL := TW.hide hwl
  clear ih iR oR q1 p0 p1 p2 p3 hr hwl
  have hb := ((Below.refl w.heap.size w).alloc (Nat.le_refl _) (.cells (K .u32 hs) 23))
  have n0 := (heap_new w (.cells (K .u32 hs) 23))
  go_enter Tryd.func3, Tryd.ntmps3
  refine wp_seq_k fun K hK => ?_
  have HK := TW.hide hK
  clear hK
  go_wp2
  refine HK.out _ _ ?_
  clear HK K
  change Code.wp _ _ _ _ (w.alloc (.cells (K .u32 hs) 23))
  generalize hWW : w.alloc (.cells (K .u32 hs) 23) = W at hb n0 ⊢
  have hW : W.heap.size = w.heap.size + 1 := by rw [← hWW]; simp
  clear hWW
  generalize hB : w.heap.size = B at *
  have N0 := TW.hide n0
  have NB := TW.hide hb
  clear n0 hb
  clear hW
  refine wp_seq_k fun KK hK => ?_
  have HK := TW.hide hK
  clear hK
  go_wp2_with fail
  refine (P0.out _ (HR.out.below (hB ▸ NB.out))).mono ?_
  rintro e w1 ⟨v, rfl, hown, hb1⟩
  obtain ⟨g0, cx, cur, rfl, hg0, hh0, hn0, hm0, hc0, ht0⟩ : ∃ g cx cur, v = .slice (some ⟨g, 0, none⟩) (len + 70) cx ∧ _ ≤ g ∧ w1.heap[g]? = some (.cells cur 5 (0, 0)) ∧ len + 70 ≤ cx ∧ cx ≤ maxLen ∧ cur.size = cx * 1 ∧ cur.toList.take ((len + 70) * 1) = LW.vs (wideL zs) := by
    rcases hown.2 with ⟨_, h0⟩ | h
    · omega
    · exact h
  have RW : Hid (LW.Row w1 (some ⟨g0, 0, none⟩) (wideL zs)) := by
    rw [← HWL.out] at hown
    obtain ⟨x, cx', he, hrow, _⟩ := LW.row_of_own hown
    simp only [Value.slice.injEq] at he
    rw [he.1]; exact hrow
  have R0 := TW.hide (HR.out.below (hB ▸ (below_row NB.out hb1 (by have := blk_lt N0.out; omega))))
  have M0 := TW.hide (blk_keep N0.out hb1)
  have MB : Hid (Below B w w1) := below_row NB.out hb1 (by have := blk_lt N0.out; omega)
  have hBs : B < w1.heap.size := blk_lt M0.out
  have HT : Hid (Below w1.heap.size w1 w1) := Below.refl _ _
  have hcx : len ≤ cx := by omega
  clear hown hb1 N0 NB hg0 hh0 hn0 hm0 hc0 ht0
  go_wp2
  refine HK.out _ _ ?_
  clear HK KK
  refine wp_seq ?_
  refine wp_region_noPanic ?_
  refine RG.wp_region_L (fun Z => True) (fun Z => Below w1.heap.size w1 Z) [] (by kernel_rfl) ?_
  refine RG.wpL_any fun Ya hY => ?_
  have HTa : Hid (Below w1.heap.size w1 Ya) := by rw [hY]; exact below_drewN HT.out 1
  clear hY
  refine RG.wpL_take (fuel := 9) (a' := ?Aa) [0, 1, 2, 3, 4, 5] (by kernel_rfl) (by kernel_rfl) (fun _ _ _ _ _ h => h) HTa.out (fun _ => trivial) ?ra ?_
  case ra =>
    refine RG.RunsIf.weak (v := (.agg (K .u32 hs))) (by rfl) (by rfl) (fun Z hT => exec_load_row' 23 _ (by rfl) B (by rfl) 23 (K .u32 hs) (0, 0) _ (blk_keep M0.out hT) Tryd.underlying23 rfl IH.out) ?_
    simp only [Act.put, List.setIfInBounds_toArray, List.set_cons_zero, List.set_cons_succ, List.getElem_toArray, List.getElem_cons_zero, List.getElem_cons_succ]
    refine RG.RunsIf.weak (v := ?_) (by rfl) (by rfl) (fun Z hT => ?_) ?_
    rotate_left
    · go_simp
      rfl
    simp only [Act.put, List.setIfInBounds_toArray, List.set_cons_zero, List.set_cons_succ, List.getElem_toArray, List.getElem_cons_zero, List.getElem_cons_succ]
    refine RG.RunsIf.weak (v := ?_) (by rfl) (by rfl) (fun Z hT => ?_) ?_
    rotate_left
    · go_simp
      rfl
    simp only [Act.put, List.setIfInBounds_toArray, List.set_cons_zero, List.set_cons_succ, List.getElem_toArray, List.getElem_cons_zero, List.getElem_cons_succ]
    refine RG.RunsIf.weak (v := ?_) (by rfl) (by rfl) (fun Z hT => ?_) ?_
    rotate_left
    · go_simp
      rfl
    simp only [Act.put, List.setIfInBounds_toArray, List.set_cons_zero, List.set_cons_succ, List.getElem_toArray, List.getElem_cons_zero, List.getElem_cons_succ]
    refine RG.RunsIf.weak (v := (.slice (some ⟨g0, 0, none⟩) len cx)) (by rfl) (by rfl) (fun Z hT => exec_sliceH 24 _ _ (by rfl) g0 0 (len + 70) cx len _ 5 (by rfl) (by rfl) rfl hcx Tryd.underlying24 size5) ?_
    simp only [Act.put, List.setIfInBounds_toArray, List.set_cons_zero, List.set_cons_succ, List.getElem_toArray, List.getElem_cons_zero, List.getElem_cons_succ]
    refine RG.RunsIf.weak (v := ?_) (by rfl) (by rfl) (fun Z hT => ?_) ?_
    rotate_left
    · go_simp
      rfl
    simp only [Act.put, List.setIfInBounds_toArray, List.set_cons_zero, List.set_cons_succ, List.getElem_toArray, List.getElem_cons_zero, List.getElem_cons_succ]
    exact RG.RunsIf.nil
  refine RG.wpL_pair (i := 6) (j := 11) (by kernel_rfl) (by rfl) (by rfl) (by rfl) (by rfl) (fun KX hK => ?_) (fun KX hK => ?_)
  · have HK := TW.hide hK
    clear hK
    go_simp
    refine (P1.out Ya (hB ▸ (MB.out.trans (Below.mono HTa.out (by omega)))) (some ⟨g0, 0, none⟩) cx (row_prefix (RW.out.below HTa.out)) hcx).mono ?_
    rintro e W1 ⟨rfl, hb1⟩
    have Hc : Hid (Below w1.heap.size w1 W1) := below_row HTa.out hb1 HTa.out.size
    refine HK.out _ _ Hc.out (fun _ => trivial) ?_
    clear HK KX hb1
    try simp only [Act.put, List.setIfInBounds_toArray, List.set_cons_zero, List.set_cons_succ, List.getElem_toArray, List.getElem_cons_zero, List.getElem_cons_succ]
    refine RG.wpL_take (fuel := 4) (a' := ?Aap) [7, 8, 9, 10] (by kernel_rfl) (by kernel_rfl) (fun _ _ _ _ _ h => h) Hc.out (fun _ => trivial) ?rap ?_
    case rap =>
      refine RG.RunsIf.weak (v := ?_) (by rfl) (by rfl) (fun Z hT => ?_) ?_
      rotate_left
      · go_simp
        rfl
      simp only [Act.put, List.setIfInBounds_toArray, List.set_cons_zero, List.set_cons_succ, List.getElem_toArray, List.getElem_cons_zero, List.getElem_cons_succ]
      refine RG.RunsIf.weak (v := ?_) (by rfl) (by rfl) (fun Z hT => ?_) ?_
      rotate_left
      · go_simp
        rfl
      simp only [Act.put, List.setIfInBounds_toArray, List.set_cons_zero, List.set_cons_succ, List.getElem_toArray, List.getElem_cons_zero, List.getElem_cons_succ]
      refine RG.RunsIf.weak (v := ?_) (by rfl) (by rfl) (fun Z hT => ?_) ?_
      rotate_left
      · go_simp
        rfl
      simp only [Act.put, List.setIfInBounds_toArray, List.set_cons_zero, List.set_cons_succ, List.getElem_toArray, List.getElem_cons_zero, List.getElem_cons_succ]
      refine RG.RunsIf.weak (v := ?_) (by rfl) (by rfl) (fun Z hT => ?_) ?_
      rotate_left
      · go_simp
        rfl
      simp only [Act.put, List.setIfInBounds_toArray, List.set_cons_zero, List.set_cons_succ, List.getElem_toArray, List.getElem_cons_zero, List.getElem_cons_succ]
      exact RG.RunsIf.nil
    have hgB : w1.heap.size ≤ W1.heap.size := Hc.out.size
    have Ha : Hid (Below w1.heap.size w1 (W1.alloc (.cells #[.int .u32 0, .int .u32 0, .int .u32 0, .int .u32 0, .int .u32 0, .int .u32 0, .int .u32 0, .int .u32 0] 23))) := Hc.out.alloc hgB _
    have Na := TW.hide (heap_new W1 (.cells #[.int .u32 0, .int .u32 0, .int .u32 0, .int .u32 0, .int .u32 0, .int .u32 0, .int .u32 0, .int .u32 0] 23))
    refine RG.wpL_step (i := 11) (by kernel_rfl) (by rfl) (by rfl) (fun KX hK => ?_)
    have HK := TW.hide hK
    clear hK
    go_simp
    refine HK.out _ _ Ha.out (fun _ => trivial) ?_
    clear HK KX Hc
    generalize W1.alloc (.cells #[.int .u32 0, .int .u32 0, .int .u32 0, .int .u32 0, .int .u32 0, .int .u32 0, .int .u32 0, .int .u32 0] 23) = X1 at *
    generalize W1.heap.size = g at *
    have hgl1 : g < X1.heap.size := blk_lt Na.out
    have T51 : Hid (Below w1.heap.size w1 (X1.setRow g (K .u32 R))) := below_setRow Ha.out hgB
    have N51 := TW.hide (setRow_heap _ _ _ (K .u32 R) _ _ Na.out)
    refine RG.wpL_step (i := 12) (by kernel_rfl) (by rfl) (by rfl) (fun KX hK => ?_)
    have HK := TW.hide hK
    clear hK
    refine wp_store_row 23 _ _ (by rfl) g (K .u32 R) (by rfl) (by rfl) 23 _ Na.out IR.out OR.out (K_one _ _) ?_
    simp only [Act.put, List.setIfInBounds_toArray, List.set_cons_zero, List.set_cons_succ, List.getElem_toArray, List.getElem_cons_zero, List.getElem_cons_succ]
    refine HK.out _ _ T51.out (fun _ => trivial) ?_
    clear HK KX Ha Na
    generalize X1.setRow g (K .u32 R) = Z1 at *
    refine RG.wpL_step (i := 13) (by kernel_rfl) (by rfl) (by rfl) (fun KX hK => ?_)
    have HK := TW.hide hK
    clear hK
    go_simp
    refine HK.out _ _ T51.out (fun _ => trivial) ?_
    clear HK KX
    refine RG.wpL_step (i := 14) (by kernel_rfl) (by rfl) (by rfl) (fun KX hK => ?_)
    have HK := TW.hide hK
    clear hK
    go_simp
    refine HK.out _ _ T51.out (fun _ => trivial) ?_
    clear HK KX
    refine RG.wpL_done (by kernel_rfl) ?_ _
    refine NoPanic.normal ?_
    refine wp_seq_k fun KK hK => ?_
    have HK := TW.hide hK
    clear hK
    have hz0 := TW.hide (blk_keep M0.out T51.out)
    go_wp2_with (refine wpList_load_row (by rfl) 23 _ (by rfl) (B) (by rfl) 23 (K .u32 hs) (0, 0) _ hz0.out Tryd.underlying23 rfl IH.out ?_)
    refine (P2.out _ (R0.out.below T51.out)).mono ?_
    rintro e W4 ⟨rfl, hb4⟩
    have HB4 : Hid (Below w1.heap.size w1 W4) := below_row T51.out hb4 T51.out.size
    have NG4 := TW.hide (blk_keep N51.out hb4)
    clear hb4 hz0
    go_wp2_with (first | (refine wpList_store_row (by rfl) 23 _ _ (by rfl) W4.heap.size (K .u32 R) (by rfl) (by rfl) 23 _ (heap_new W4 _) IR.out OR.out (K_one _ _) ?_))
    have n4 := setRow_heap _ _ _ (K .u32 R) _ _ (heap_new W4 (.cells #[.int .u32 0, .int .u32 0, .int .u32 0, .int .u32 0, .int .u32 0, .int .u32 0, .int .u32 0, .int .u32 0] 23))
    have bx4 := below_setRow (cs := (K .u32 R)) ((Below.refl W4.heap.size W4).alloc (Nat.le_refl _) (.cells #[.int .u32 0, .int .u32 0, .int .u32 0, .int .u32 0, .int .u32 0, .int .u32 0, .int .u32 0, .int .u32 0] 23)) (g := W4.heap.size) (Nat.le_refl _)
    generalize (W4.alloc (.cells #[.int .u32 0, .int .u32 0, .int .u32 0, .int .u32 0, .int .u32 0, .int .u32 0, .int .u32 0, .int .u32 0] 23)).setRow W4.heap.size (K .u32 R) = X4 at n4 bx4 ⊢
    have HB5 : Hid (Below w1.heap.size w1 X4) := below_row HB4.out bx4 HB4.out.size
    have NG5 := TW.hide (blk_keep NG4.out bx4)
    have NH5 := TW.hide n4
    clear n4 bx4 HB4 NG4
    generalize W4.heap.size = gg at *
    refine HK.out _ _ ?_
    clear HK KK
    have q := Q1.out X4
    go_wp2_with (first | (refine wpList_val (.agg (K .u32 R)) (by rfl) (exec_load_row' 23 _ (by rfl) (g) (by rfl) 23 (K .u32 R) (0, 0) _ NG5.out Tryd.underlying23 rfl IR.out) ?_) | (refine wpList_val (.agg (K .u32 R)) (by rfl) (exec_load_row' 23 _ (by rfl) (gg) (by rfl) 23 (K .u32 R) (0, 0) _ NH5.out Tryd.underlying23 rfl IR.out) ?_))
    refine (P3.out _ _ _ (RW.out.below HB5.out) (R0.out.below HB5.out)).mono ?_
    rintro e W5 ⟨rfl, hb5⟩
    have HB6 : Hid (Below B w W5) := below_row (MB.out.trans (HB5.out.mono (by omega))) hb5 (by have := HB5.out.size; omega)
    clear hb5 q
    go_wp2
    go_ret
    exact ⟨rfl, HB6.out⟩
  · have HK := TW.hide hK
    clear hK
    have hgB : w1.heap.size ≤ Ya.heap.size := HTa.out.size
    have Ha : Hid (Below w1.heap.size w1 (Ya.alloc (.cells #[.int .u32 0, .int .u32 0, .int .u32 0, .int .u32 0, .int .u32 0, .int .u32 0, .int .u32 0, .int .u32 0] 23))) := HTa.out.alloc hgB _
    have Na := TW.hide (heap_new Ya (.cells #[.int .u32 0, .int .u32 0, .int .u32 0, .int .u32 0, .int .u32 0, .int .u32 0, .int .u32 0, .int .u32 0] 23))
    go_simp
    refine HK.out _ _ Ha.out (fun _ => trivial) ?_
    clear HK KX HTa
    generalize Ya.alloc (.cells #[.int .u32 0, .int .u32 0, .int .u32 0, .int .u32 0, .int .u32 0, .int .u32 0, .int .u32 0, .int .u32 0] 23) = X0 at *
    generalize Ya.heap.size = g at *
    try simp only [Act.put, List.setIfInBounds_toArray, List.set_cons_zero, List.set_cons_succ, List.getElem_toArray, List.getElem_cons_zero, List.getElem_cons_succ]
    refine RG.wpL_step (i := 6) (by kernel_rfl) (by rfl) (by rfl) (fun KX hK => ?_)
    have HK := TW.hide hK
    clear hK
    go_simp
    refine (P1.out X0 (hB ▸ (MB.out.trans (Below.mono Ha.out (by omega)))) (some ⟨g0, 0, none⟩) cx (row_prefix (RW.out.below Ha.out)) hcx).mono ?_
    rintro e X2 ⟨rfl, hb1⟩
    have Hc : Hid (Below w1.heap.size w1 X2) := below_row Ha.out hb1 Ha.out.size
    have Nc := TW.hide (blk_keep Na.out hb1)
    refine HK.out _ _ Hc.out (fun _ => trivial) ?_
    clear HK KX hb1 Ha Na
    try simp only [Act.put, List.setIfInBounds_toArray, List.set_cons_zero, List.set_cons_succ, List.getElem_toArray, List.getElem_cons_zero, List.getElem_cons_succ]
    refine RG.wpL_take (fuel := 3) (a' := ?Aaq) [7, 8, 9, 10] (by kernel_rfl) (by kernel_rfl) (fun _ _ _ _ _ h => h) Hc.out (fun _ => trivial) ?raq ?_
    case raq =>
      refine RG.RunsIf.weak (v := ?_) (by rfl) (by rfl) (fun Z hT => ?_) ?_
      rotate_left
      · go_simp
        rfl
      simp only [Act.put, List.setIfInBounds_toArray, List.set_cons_zero, List.set_cons_succ, List.getElem_toArray, List.getElem_cons_zero, List.getElem_cons_succ]
      refine RG.RunsIf.weak (v := ?_) (by rfl) (by rfl) (fun Z hT => ?_) ?_
      rotate_left
      · go_simp
        rfl
      simp only [Act.put, List.setIfInBounds_toArray, List.set_cons_zero, List.set_cons_succ, List.getElem_toArray, List.getElem_cons_zero, List.getElem_cons_succ]
      refine RG.RunsIf.weak (v := ?_) (by rfl) (by rfl) (fun Z hT => ?_) ?_
      rotate_left
      · go_simp
        rfl
      simp only [Act.put, List.setIfInBounds_toArray, List.set_cons_zero, List.set_cons_succ, List.getElem_toArray, List.getElem_cons_zero, List.getElem_cons_succ]
      refine RG.RunsIf.weak (v := ?_) (by rfl) (by rfl) (fun Z hT => ?_) ?_
      rotate_left
      · go_simp
        rfl
      simp only [Act.put, List.setIfInBounds_toArray, List.set_cons_zero, List.set_cons_succ, List.getElem_toArray, List.getElem_cons_zero, List.getElem_cons_succ]
      exact RG.RunsIf.nil
    have hgl2 : g < X2.heap.size := blk_lt Nc.out
    have T52 : Hid (Below w1.heap.size w1 (X2.setRow g (K .u32 R))) := below_setRow Hc.out hgB
    have N52 := TW.hide (setRow_heap _ _ _ (K .u32 R) _ _ Nc.out)
    refine RG.wpL_step (i := 12) (by kernel_rfl) (by rfl) (by rfl) (fun KX hK => ?_)
    have HK := TW.hide hK
    clear hK
    refine wp_store_row 23 _ _ (by rfl) g (K .u32 R) (by rfl) (by rfl) 23 _ Nc.out IR.out OR.out (K_one _ _) ?_
    simp only [Act.put, List.setIfInBounds_toArray, List.set_cons_zero, List.set_cons_succ, List.getElem_toArray, List.getElem_cons_zero, List.getElem_cons_succ]
    refine HK.out _ _ T52.out (fun _ => trivial) ?_
    clear HK KX Hc Nc
    generalize X2.setRow g (K .u32 R) = Z2 at *
    refine RG.wpL_step (i := 13) (by kernel_rfl) (by rfl) (by rfl) (fun KX hK => ?_)
    have HK := TW.hide hK
    clear hK
    go_simp
    refine HK.out _ _ T52.out (fun _ => trivial) ?_
    clear HK KX
    refine RG.wpL_step (i := 14) (by kernel_rfl) (by rfl) (by rfl) (fun KX hK => ?_)
    have HK := TW.hide hK
    clear hK
    go_simp
    refine HK.out _ _ T52.out (fun _ => trivial) ?_
    clear HK KX
    refine RG.wpL_done (by kernel_rfl) ?_ _
    refine NoPanic.normal ?_
    refine wp_seq_k fun KK hK => ?_
    have HK := TW.hide hK
    clear hK
    have hz0 := TW.hide (blk_keep M0.out T52.out)
    go_wp2_with (refine wpList_load_row (by rfl) 23 _ (by rfl) (B) (by rfl) 23 (K .u32 hs) (0, 0) _ hz0.out Tryd.underlying23 rfl IH.out ?_)
    refine (P2.out _ (R0.out.below T52.out)).mono ?_
    rintro e W4 ⟨rfl, hb4⟩
    have HB4 : Hid (Below w1.heap.size w1 W4) := below_row T52.out hb4 T52.out.size
    have NG4 := TW.hide (blk_keep N52.out hb4)
    clear hb4 hz0
    go_wp2_with (first | (refine wpList_store_row (by rfl) 23 _ _ (by rfl) W4.heap.size (K .u32 R) (by rfl) (by rfl) 23 _ (heap_new W4 _) IR.out OR.out (K_one _ _) ?_))
    have n4 := setRow_heap _ _ _ (K .u32 R) _ _ (heap_new W4 (.cells #[.int .u32 0, .int .u32 0, .int .u32 0, .int .u32 0, .int .u32 0, .int .u32 0, .int .u32 0, .int .u32 0] 23))
    have bx4 := below_setRow (cs := (K .u32 R)) ((Below.refl W4.heap.size W4).alloc (Nat.le_refl _) (.cells #[.int .u32 0, .int .u32 0, .int .u32 0, .int .u32 0, .int .u32 0, .int .u32 0, .int .u32 0, .int .u32 0] 23)) (g := W4.heap.size) (Nat.le_refl _)
    generalize (W4.alloc (.cells #[.int .u32 0, .int .u32 0, .int .u32 0, .int .u32 0, .int .u32 0, .int .u32 0, .int .u32 0, .int .u32 0] 23)).setRow W4.heap.size (K .u32 R) = X4 at n4 bx4 ⊢
    have HB5 : Hid (Below w1.heap.size w1 X4) := below_row HB4.out bx4 HB4.out.size
    have NG5 := TW.hide (blk_keep NG4.out bx4)
    have NH5 := TW.hide n4
    clear n4 bx4 HB4 NG4
    generalize W4.heap.size = gg at *
    refine HK.out _ _ ?_
    clear HK KK
    have q := Q1.out X4
    go_wp2_with (first | (refine wpList_val (.agg (K .u32 R)) (by rfl) (exec_load_row' 23 _ (by rfl) (g) (by rfl) 23 (K .u32 R) (0, 0) _ NG5.out Tryd.underlying23 rfl IR.out) ?_) | (refine wpList_val (.agg (K .u32 R)) (by rfl) (exec_load_row' 23 _ (by rfl) (gg) (by rfl) 23 (K .u32 R) (0, 0) _ NH5.out Tryd.underlying23 rfl IR.out) ?_))
    refine (P3.out _ _ _ (RW.out.below HB5.out) (R0.out.below HB5.out)).mono ?_
    rintro e W5 ⟨rfl, hb5⟩
    have HB6 : Hid (Below B w W5) := below_row (MB.out.trans (HB5.out.mono (by omega))) hb5 (by have := HB5.out.size; omega)
    clear hb5 q
    go_wp2
    go_ret
    exact ⟨rfl, HB6.out⟩
end MX
end Go.Proofs.YtecepllidmkmhabDoor
