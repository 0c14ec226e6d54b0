/-
  What the law ParamPuts does: a field says what was put there, and all others what they said.
-/
import Derived.Test.YtpcahieaakjaaaaPuts
import Derived.Test.YtpcahieaakjaaaaSame
import Derived.Test.YtpcahieaakjaaaaCopied
import Derived.Test.YtpcahieaakjaaaaAliveP
import Derived.Test.YtpcahieaakjaaaaOrder
import Derived.Deep.MidRow
namespace Go.Proofs.Ytpcahieaakjaaaa
open Go.RowKit Go.ChangeShapes
set_option linter.unusedVariables false
set_option linter.unusedSimpArgs false
namespace LW
open Words
attribute [local go_sem ↓] Go.wp_at_zero Go.wp_at_succ
theorem ly_same (zs : List Int) (j n : Nat) (v : Int) (h : j + n ≤ zs.length) : ((ly zs j n v).drop j).take n = un v n := by
  unfold ly
  have h1 : (zs.take j).length = j := by rw [List.length_take]; omega
  rw [List.drop_append_of_le_length (by omega), List.drop_of_length_le (by omega), List.nil_append, List.take_append_of_le_length (by rw [un_length]; omega), List.take_of_length_le (by rw [un_length]; omega)]
theorem ly_other (zs : List Int) (j n i m : Nat) (v : Int) (h : j + n ≤ zs.length) (hd : i + m ≤ j ∨ j + n ≤ i) : ((ly zs j n v).drop i).take m = (zs.drop i).take m := by
  have hlt : (zs.take j).length = j := by rw [List.length_take]; omega
  apply List.ext_getElem?
  intro k
  rcases Nat.lt_or_ge k m with hk | hk
  · rw [List.getElem?_take, List.getElem?_take, if_pos hk, if_pos hk, List.getElem?_drop, List.getElem?_drop]
    unfold ly
    rcases hd with hd | hd
    · rw [List.getElem?_append_left (by omega), List.getElem?_take, if_pos (by omega)]
    · rw [List.getElem?_append_right (by omega), hlt, List.getElem?_append_right (by rw [un_length]; omega), un_length, List.getElem?_drop]
      congr 1
      omega
  · rw [List.getElem?_take, List.getElem?_take, if_neg (by omega), if_neg (by omega)]
/-- The places of two fields do not meet. -/
theorem apart_fields (kd f g : Int) (hk : kd = 1 ∨ kd = 2) (h1 : 1 ≤ f) (h9 : f ≤ 9) (g1 : 1 ≤ g) (g9 : g ≤ 9) (hne : f ≠ g) (hx : ¬ (f + g = 13 ∧ (g = 6 ∨ g = 7))) : fA kd g + fS kd g ≤ fA kd f ∨ fA kd f + fS kd f ≤ fA kd g := by
  have hf : f = 1 ∨ f = 2 ∨ f = 3 ∨ f = 4 ∨ f = 5 ∨ f = 6 ∨ f = 7 ∨ f = 8 ∨ f = 9 := by omega
  have hg : g = 1 ∨ g = 2 ∨ g = 3 ∨ g = 4 ∨ g = 5 ∨ g = 6 ∨ g = 7 ∨ g = 8 ∨ g = 9 := by omega
  rcases hk with rfl | rfl <;> rcases hf with rfl | rfl | rfl | rfl | rfl | rfl | rfl | rfl | rfl <;> rcases hg with rfl | rfl | rfl | rfl | rfl | rfl | rfl | rfl | rfl <;> first | (exfalso; omega) | decide +kernel
theorem pE_zero {kd f v : Int} {n : Nat} (h : pE kd f n v = 0) : cf kd n f = 0 ∧ v < 2 ^ (8 * fS kd f) := by
  unfold pE at h
  by_cases h0 : cf kd n f = 0
  · rw [if_pos h0] at h
    by_cases h1 : v < 2 ^ (8 * fS kd f)
    · exact ⟨h0, h1⟩
    · rw [if_neg h1] at h; cases h
  · rw [if_neg h0] at h; exact absurd h h0
theorem put_get {kd f v : Int} {zs : List Int} (h : pE kd f zs.length v = 0) (v0 : 0 ≤ v) : (pL kd f zs v).length = zs.length ∧ gt kd f (pL kd f zs v) = v ∧ ∀ g, cf kd zs.length g = 0 → f ≠ g → ¬ (f + g = 13 ∧ (g = 6 ∨ g = 7)) → gt kd g (pL kd f zs v) = gt kd g zs := by
  obtain ⟨hc, hv⟩ := pE_zero h
  obtain ⟨hk, hlen, h1, h9, _⟩ := cf_zero hc
  obtain ⟨_, _, _, _, hfit⟩ := fits kd f hk h1 h9
  have hfit' : fA kd f + fS kd f ≤ zs.length := by omega
  have hL : pL kd f zs v = ly zs (fA kd f) (fS kd f) v := by unfold pL; rw [if_pos h]
  have hl : (ly zs (fA kd f) (fS kd f) v).length = zs.length := ly_length _ _ _ _ hfit'
  rw [hL]
  refine ⟨hl, ?_, fun g hg hne hx => ?_⟩
  · unfold gt gv
    rw [hl, if_pos hc, ly_same zs _ _ v hfit', le_un v _ v0 (by rw [Int.pow_mul] at hv; exact hv)]
  · obtain ⟨_, _, g1, g9, _⟩ := cf_zero hg
    unfold gt gv
    rw [hl, if_pos hg, if_pos hg, ly_other zs _ _ _ _ v hfit' (apart_fields kd f g hk h1 h9 g1 g9 hne hx)]
theorem pL_Byt {kd f v : Int} {zs : List Int} (hz : Byt zs) : Byt (pL kd f zs v) := by
  unfold pL; split
  · exact LW.Byt.ly hz _ _ _
  · exact Byt.nil
set_option maxRecDepth 100000 in
set_option maxHeartbeats 1000000 in
theorem puts (kd fld oth v : Int) (a : Option Addr) (cap : Nat) (zs : List Int) (w : World) (hz : Byt zs) (hr : Row w a zs) (hn : a = none → cap = 0) (hm : zs.length ≤ 140737488351232) (v0 : 0 ≤ v) (v1 : v < 18446744073709551616) :
    Calls Try.prog 8 #[.agg #[.int .i64 kd, .slice a zs.length cap, .int .i64 fld, .int .i64 oth, .int .u64 v]] w fun e w' => e = .returned (.bool true) ∧ Below w.heap.size w w' := by
  have p0 := fun a' cap' W (h : Row W a' zs) => get kd oth a' cap' zs W hz h
  have p1 := fun a' cap' W (h : Row W a' zs) hn' => put kd fld a' cap' zs v W h hn' v0 v1
  have p2 := fun a' cap' W (h : Row W a' (pL kd fld zs v)) => get kd fld a' cap' (pL kd fld zs v) W (pL_Byt hz) h
  have p3 := fun a' cap' W (h : Row W a' (pL kd fld zs v)) => get kd oth a' cap' (pL kd fld zs v) W (pL_Byt hz) h
  have ro := fun (W : World) (B : Nat) (x : Value) (h : W.ownsRow B 5 1 x (pL kd fld zs v).length (vs (pL kd fld zs v))) => row_of_own h
  have ro' := fun (W : World) (B : Nat) (x : Value) (h : W.ownsRow B 5 1 x zs.length (vs zs)) => row_of_own h
  have rn := fun (W : World) (B cap' : Nat) (h : W.ownsRow B 5 1 (.slice none zs.length cap') zs.length (vs zs)) => (show cap' = 0 by
    rcases h.2 with ⟨h, _⟩ | ⟨g, c, cur, h, _⟩
    · simp at h; exact h.2
    · simp at h)
  have key : cf kd zs.length oth = 0 → pE kd fld zs.length v = 0 → cf kd (pL kd fld zs v).length fld = 0 ∧ gt kd fld (pL kd fld zs v) = v ∧ (1 ≤ oth ∧ oth ≤ 9 ∧ 1 ≤ fld ∧ fld ≤ 9) ∧ cf kd (pL kd fld zs v).length oth = 0 ∧ (fld ≠ oth → ¬ (fld + oth = 13 ∧ (oth = 6 ∨ oth = 7)) → gt kd oth (pL kd fld zs v) = gt kd oth zs) := fun h1 h2 => by
    obtain ⟨e1, e2, e3⟩ := put_get h2 v0
    obtain ⟨c1, _⟩ := pE_zero h2
    obtain ⟨_, _, o1, o2, _⟩ := cf_zero h1
    obtain ⟨_, _, f1, f2, _⟩ := cf_zero c1
    exact ⟨by rw [e1]; exact c1, e2, ⟨o1, o2, f1, f2⟩, by rw [e1]; exact h1, e3 oth h1⟩
  generalize gt kd oth zs = G0 at *
  generalize cf kd zs.length oth = E1 at *
  generalize pE kd fld zs.length v = E2 at *
  generalize pL kd fld zs v = L at *
  generalize gt kd fld L = G1 at *
  generalize gt kd oth L = G2 at *
  generalize cf kd L.length fld = E3 at *
  generalize cf kd L.length oth = E4 at *
  have hal := fun Y => alive Y
  have hb := (Below.refl w.heap.size w).alloc (Nat.le_refl _) (.cells #[.int .i64 kd, .slice a zs.length cap, .int .i64 fld, .int .i64 oth, .int .u64 v] 62)
  have n0 := heap_alloc_new w (.cells #[.int .i64 kd, .slice a zs.length cap, .int .i64 fld, .int .i64 oth, .int .u64 v] 62)
  have HR := TW.hide hr
  have HN := TW.hide hn
  have P0 := TW.hide p0
  have P1 := TW.hide p1
  have P2 := TW.hide p2
  have P3 := TW.hide p3
  have RO := TW.hide ro
  have RO' := TW.hide ro'
  have RN := TW.hide rn
  have KEY := TW.hide key
  have HAL := TW.hide hal
  clear hr hn p0 p1 p2 p3 ro ro' rn key hal hz
  generalize hlen : zs.length = len at *
  generalize hlenL : L.length = lenL at *
  have HLEN := TW.hide hlen
  clear hlen hlenL
  have HCE : Hid (∀ Z : World, Z.heap[w.heap.size]? = some (.cells #[.int .i64 kd, .slice a len cap, .int .i64 fld, .int .i64 oth, .int .u64 v] 62 (0, 0)) → Z.cell? ⟨w.heap.size, 0, none⟩ = some (.int .i64 kd) ∧ Z.cell? ⟨w.heap.size, 1, none⟩ = some (.slice a len cap) ∧ Z.cell? ⟨w.heap.size, 2, none⟩ = some (.int .i64 fld) ∧ Z.cell? ⟨w.heap.size, 3, none⟩ = some (.int .i64 oth) ∧ Z.cell? ⟨w.heap.size, 4, none⟩ = some (.int .u64 v)) := fun Z h =>
    ⟨blk_cell h (i := 0) rfl, blk_cell h (i := 1) rfl, blk_cell h (i := 2) rfl, blk_cell h (i := 3) rfl, blk_cell h (i := 4) rfl⟩
  go_enter Try.func8, Try.ntmps8
  refine wp_seq_k fun K hK => ?_
  have HK := TW.hide hK
  clear hK
  go_wp2
  refine HK.out _ _ ?_
  clear HK K
  generalize w.alloc (.cells #[.int .i64 kd, .slice a len cap, .int .i64 fld, .int .i64 oth, .int .u64 v] 62) = W at hb n0 ⊢
  generalize hB : w.heap.size = B at *
  have HT : Hid (W.heap[B]? = some (.cells #[.int .i64 kd, .slice a len cap, .int .i64 fld, .int .i64 oth, .int .u64 v] 62 (0, 0)) ∧ Below B w W) := ⟨n0, hb⟩
  clear n0 hb
  refine wp_seq_k fun KK hK => ?_
  have HK0 := TW.hide hK
  clear hK
  refine wp_region_noPanic ?_
  refine RG.wp_region_L (fun Z => True) (fun Z => Z.heap[B]? = some (.cells #[.int .i64 kd, .slice a len cap, .int .i64 fld, .int .i64 oth, .int .u64 v] 62 (0, 0)) ∧ Below B w Z) [] (by kernel_rfl) ?_
  refine RG.wpL_any fun Y hY => ?_
  have HY : Hid (Y.heap[B]? = some (.cells #[.int .i64 kd, .slice a len cap, .int .i64 fld, .int .i64 oth, .int .u64 v] 62 (0, 0)) ∧ Below B w Y) := by rw [hY]; exact ⟨HT.out.1, below_drewN HT.out.2 1⟩
  clear hY HT
  refine RG.wpL_take (fuel := 5) (a' := ?A) [0, 1, 2, 3, 4, 5, 6, 7, 8, 9] (by kernel_rfl) (by kernel_rfl) (fun _ _ _ _ _ h => h) HY.out (fun _ => trivial) ?r ?_
  case r =>
    refine RG.RunsIf.weak (v := ?_) (by rfl) (by rfl) (fun Z hT => ?_) ?_
    rotate_left
    · obtain ⟨c0, c1, c2, c3, c4⟩ := HCE.out Z hT.1
      go_simp
      rfl
    simp only [Act.put, List.setIfInBounds_toArray, List.set_cons_zero, List.set_cons_succ, List.getElem_toArray, List.getElem_cons_zero, List.getElem_cons_succ]
    refine RG.RunsIf.weak (v := ?_) (by rfl) (by rfl) (fun Z hT => ?_) ?_
    rotate_left
    · obtain ⟨c0, c1, c2, c3, c4⟩ := HCE.out Z hT.1
      go_simp
      rfl
    simp only [Act.put, List.setIfInBounds_toArray, List.set_cons_zero, List.set_cons_succ, List.getElem_toArray, List.getElem_cons_zero, List.getElem_cons_succ]
    refine RG.RunsIf.weak (v := ?_) (by rfl) (by rfl) (fun Z hT => ?_) ?_
    rotate_left
    · obtain ⟨c0, c1, c2, c3, c4⟩ := HCE.out Z hT.1
      go_simp
      rfl
    simp only [Act.put, List.setIfInBounds_toArray, List.set_cons_zero, List.set_cons_succ, List.getElem_toArray, List.getElem_cons_zero, List.getElem_cons_succ]
    refine RG.RunsIf.weak (v := ?_) (by rfl) (by rfl) (fun Z hT => ?_) ?_
    rotate_left
    · obtain ⟨c0, c1, c2, c3, c4⟩ := HCE.out Z hT.1
      go_simp
      rfl
    simp only [Act.put, List.setIfInBounds_toArray, List.set_cons_zero, List.set_cons_succ, List.getElem_toArray, List.getElem_cons_zero, List.getElem_cons_succ]
    refine RG.RunsIf.weak (v := ?_) (by rfl) (by rfl) (fun Z hT => ?_) ?_
    rotate_left
    · obtain ⟨c0, c1, c2, c3, c4⟩ := HCE.out Z hT.1
      go_simp
      rfl
    simp only [Act.put, List.setIfInBounds_toArray, List.set_cons_zero, List.set_cons_succ, List.getElem_toArray, List.getElem_cons_zero, List.getElem_cons_succ]
    refine RG.RunsIf.weak (v := ?_) (by rfl) (by rfl) (fun Z hT => ?_) ?_
    rotate_left
    · obtain ⟨c0, c1, c2, c3, c4⟩ := HCE.out Z hT.1
      go_simp
      rfl
    simp only [Act.put, List.setIfInBounds_toArray, List.set_cons_zero, List.set_cons_succ, List.getElem_toArray, List.getElem_cons_zero, List.getElem_cons_succ]
    refine RG.RunsIf.weak (v := ?_) (by rfl) (by rfl) (fun Z hT => ?_) ?_
    rotate_left
    · obtain ⟨c0, c1, c2, c3, c4⟩ := HCE.out Z hT.1
      go_simp
      rfl
    simp only [Act.put, List.setIfInBounds_toArray, List.set_cons_zero, List.set_cons_succ, List.getElem_toArray, List.getElem_cons_zero, List.getElem_cons_succ]
    refine RG.RunsIf.weak (v := ?_) (by rfl) (by rfl) (fun Z hT => ?_) ?_
    rotate_left
    · obtain ⟨c0, c1, c2, c3, c4⟩ := HCE.out Z hT.1
      go_simp
      rfl
    simp only [Act.put, List.setIfInBounds_toArray, List.set_cons_zero, List.set_cons_succ, List.getElem_toArray, List.getElem_cons_zero, List.getElem_cons_succ]
    refine RG.RunsIf.weak (v := ?_) (by rfl) (by rfl) (fun Z hT => ?_) ?_
    rotate_left
    · obtain ⟨c0, c1, c2, c3, c4⟩ := HCE.out Z hT.1
      go_simp
      rfl
    simp only [Act.put, List.setIfInBounds_toArray, List.set_cons_zero, List.set_cons_succ, List.getElem_toArray, List.getElem_cons_zero, List.getElem_cons_succ]
    refine RG.RunsIf.weak (v := ?_) (by rfl) (by rfl) (fun Z hT => ?_) ?_
    rotate_left
    · obtain ⟨c0, c1, c2, c3, c4⟩ := HCE.out Z hT.1
      go_simp
      rfl
    simp only [Act.put, List.setIfInBounds_toArray, List.set_cons_zero, List.set_cons_succ, List.getElem_toArray, List.getElem_cons_zero, List.getElem_cons_succ]
    exact RG.RunsIf.nil
  refine RG.wpL_step (i := 10) (by kernel_rfl) (by rfl) (by rfl) (fun KX hK => ?_)
  have HK := TW.hide hK
  clear hK
  go_simp
  refine HK.out _ _ HY.out (fun _ => trivial) ?_
  clear HK KX
  refine RG.wpL_step (i := 11) (by kernel_rfl) (by rfl) (by rfl) (fun KX hK => ?_)
  have HK := TW.hide hK
  clear hK
  go_simp
  refine HK.out _ _ HY.out (fun _ => trivial) ?_
  clear HK KX
  refine RG.wpL_step (i := 12) (by kernel_rfl) (by rfl) (by rfl) (fun KX hK => ?_)
  have HK := TW.hide hK
  clear hK
  go_simp
  refine HK.out _ _ HY.out (fun _ => trivial) ?_
  clear HK KX
  refine RG.wpL_step (i := 13) (by kernel_rfl) (by rfl) (by rfl) (fun KX hK => ?_)
  have HK := TW.hide hK
  clear hK
  go_simp
  refine HK.out _ _ HY.out (fun _ => trivial) ?_
  clear HK KX
  refine RG.wpL_step (i := 14) (by kernel_rfl) (by rfl) (by rfl) (fun KX hK => ?_)
  have HK := TW.hide hK
  clear hK
  go_simp
  refine HK.out _ _ HY.out (fun _ => trivial) ?_
  clear HK KX
  refine RG.wpL_done (by kernel_rfl) ?_ _
  refine NoPanic.normal ?_
  refine HK0.out _ _ ?_
  clear HK0 KK
  have hBY : B < Y.heap.size := (Array.getElem?_eq_some_iff.1 HY.out.1).1
  refine wp_seq_k fun KK hK => ?_
  have HK := TW.hide hK
  clear hK
  go_wp2_with fail
  refine (HAL.out _).mono ?_
  rintro e w1 ⟨rfl, hb1⟩
  have NB : Hid (Below B w w1) := HY.out.2.trans (hb1.mono (by omega))
  have hBw : B ≤ w1.heap.size := by have := hb1.size; omega
  clear hb1 HY
  go_wp2
  refine HK.out _ _ ?_
  clear HK KK
  have R0 := TW.hide (HR.out.below (hB ▸ NB.out))
  refine wp_seq_k fun KK hK => ?_
  have HK := TW.hide hK
  clear hK
  go_wp2
  refine HK.out _ _ ?_
  clear HK KK
  refine wp_seq_k fun KK hK => ?_
  have HK := TW.hide hK
  clear hK
  go_wp2_with (at_builtin; refine wpList_copy_row rfl _ _ rfl a cap zs len HLEN.out rfl rfl R0.out HN.out hm ?_)
  intro x2 w2 hown2 hb2
  rw [← HLEN.out] at hown2
  obtain ⟨a2, cap2, hx2, hr2, _⟩ := RO'.out _ _ _ (by rw [HLEN.out] at hown2; exact hown2)
  have TN : Hid (a2 = none → cap2 = 0) := fun h => by
    subst h
    rw [hx2, HLEN.out] at hown2
    exact RN.out _ _ _ hown2
  subst hx2
  have R2 := TW.hide hr2
  have NB2 : Hid (Below B w w2) := NB.out.trans (hb2.mono hBw)
  have hBw2 : B ≤ w2.heap.size := by have := hb2.size; omega
  clear hown2 hr2 hb2 NB R0 HR HN
  go_wp2
  refine HK.out _ _ ?_
  clear HK KK
  refine wp_seq_k fun KK hK => ?_
  have HK := TW.hide hK
  clear hK
  go_wp2_with fail
  refine (P0.out _ _ _ R2.out).mono ?_
  rintro e w3 ⟨rfl, hb3⟩
  have R3 := TW.hide (R2.out.below hb3)
  have NB3 : Hid (Below B w w3) := NB2.out.trans (hb3.mono hBw2)
  have hBw3 : B ≤ w3.heap.size := by have := hb3.size; omega
  clear hb3 R2 NB2
  go_wp2
  refine HK.out _ _ ?_
  clear HK KK
  refine wp_seq_k fun KK hK => ?_
  have HK := TW.hide hK
  clear hK
  go_wp2_with fail
  refine (P1.out _ _ _ R3.out TN.out).mono ?_
  rintro e w4 ⟨x4, rfl, hown4, hb4⟩
  obtain ⟨a4, cap4, hx4, hr4, _⟩ := RO.out _ _ _ hown4
  subst hx4
  have R4 := TW.hide hr4
  have NB4 : Hid (Below B w w4) := NB3.out.trans (hb4.mono hBw3)
  have hBw4 : B ≤ w4.heap.size := by have := hb4.size; omega
  clear hown4 hr4 hb4 R3 NB3
  go_wp2
  refine HK.out _ _ ?_
  clear HK KK
  by_cases h1 : E1 = 0
  · by_cases h2 : E2 = 0
    · obtain ⟨k1, k2, ⟨o1, o2, f1, f2⟩, k4, k5⟩ := KEY.out h1 h2
      subst h1 h2 k1 k2 k4
      have HK5 := TW.hide k5
      clear KEY k5
      refine wp_seq_k fun KK hK => ?_
      have HK := TW.hide hK
      clear hK
      go_wp2
      refine HK.out _ _ ?_
      clear HK KK
      refine wp_seq_k fun KK hK => ?_
      have HK := TW.hide hK
      clear hK
      go_wp2_with fail
      refine (P2.out _ _ _ R4.out).mono ?_
      rintro e w5 ⟨rfl, hb5⟩
      have R5 := TW.hide (R4.out.below hb5)
      have NB5 : Hid (Below B w w5) := NB4.out.trans (hb5.mono hBw4)
      have hBw5 : B ≤ w5.heap.size := by have := hb5.size; omega
      clear hb5 R4 NB4
      go_wp2
      refine HK.out _ _ ?_
      clear HK KK
      refine wp_seq_k fun KK hK => ?_
      have HK := TW.hide hK
      clear hK
      go_wp2
      refine HK.out _ _ ?_
      clear HK KK
      have hwr : IntKind.i64.wrap (oth + fld) = oth + fld := by rw [IntKind.wrap_i64]; omega
      by_cases c1 : oth = fld
      · have d1 : (oth == fld) = true := by simp [c1]
        go_wp2
        go_ret
        exact ⟨rfl, NB5.out⟩
      · have d1 : (oth == fld) = false := by simp [c1]
        by_cases c2 : oth + fld = 13
        · have d2 : (oth + fld == 13) = true := by simp [c2]
          by_cases c3 : oth = 6
          · have d3 : (oth == 6) = true := by simp [c3]
            clear c3
            go_wp2
            go_ret
            exact ⟨rfl, NB5.out⟩
          · have d3 : (oth == 6) = false := by simp [c3]
            by_cases c4 : oth = 7
            · have d4 : (oth == 7) = true := by simp [c4]
              clear c4
              go_wp2
              go_ret
              exact ⟨rfl, NB5.out⟩
            · have d4 : (oth == 7) = false := by simp [c4]
              have hx13 : ¬ (fld + oth = 13 ∧ (oth = 6 ∨ oth = 7)) := by omega
              have e5 := HK5.out (fun h => c1 h.symm) hx13
              refine wp_seq_k fun KK hK => ?_
              have HK := TW.hide hK
              clear hK
              go_wp2
              refine HK.out _ _ ?_
              clear HK KK
              go_wp2_with fail
              refine (P3.out _ _ _ R5.out).mono ?_
              rintro e w6 ⟨rfl, hb6⟩
              have NB6 : Hid (Below B w w6) := NB5.out.trans (hb6.mono hBw5)
              clear hb6 R5 NB5
              have d9 : (G2 == G0) = true := by simp [e5]
              clear e5
              go_wp2
              go_ret
              exact ⟨rfl, NB6.out⟩
        · have d2 : (oth + fld == 13) = false := by simp [c2]
          have hx13 : ¬ (fld + oth = 13 ∧ (oth = 6 ∨ oth = 7)) := by omega
          have e5 := HK5.out (fun h => c1 h.symm) hx13
          refine wp_seq_k fun KK hK => ?_
          have HK := TW.hide hK
          clear hK
          go_wp2
          refine HK.out _ _ ?_
          clear HK KK
          go_wp2_with fail
          refine (P3.out _ _ _ R5.out).mono ?_
          rintro e w6 ⟨rfl, hb6⟩
          have NB6 : Hid (Below B w w6) := NB5.out.trans (hb6.mono hBw5)
          clear hb6 R5 NB5
          have d9 : (G2 == G0) = true := by simp [e5]
          clear e5
          go_wp2
          go_ret
          exact ⟨rfl, NB6.out⟩
    · have d2 : (E2 != 0) = true := by simp [h2]
      subst h1
      go_wp2
      go_ret
      exact ⟨rfl, NB4.out⟩
  · have d1 : (E1 != 0) = true := by simp [h1]
    go_wp2
    go_ret
    exact ⟨rfl, NB4.out⟩
end LW
end Go.Proofs.Ytpcahieaakjaaaa
