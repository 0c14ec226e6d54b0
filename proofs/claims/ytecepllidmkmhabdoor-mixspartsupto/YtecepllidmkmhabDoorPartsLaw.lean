/-
  What the law MixsParts does: a chain over two runs of blocks is that over the first, and on over the second.
-/
import Derived.Test.YtecepllidmkmhabDoorChainT
import Derived.Test.YtecepllidmkmhabDoorWide
import Derived.Test.YtecepllidmkmhabDoorAlive
import Derived.Test.YtecepllidmkmhabDoorEql
import Derived.Test.YtecepllidmkmhabDoorOrder
namespace Go.Proofs.YtecepllidmkmhabDoor
open Go.RowKit
set_option linter.unusedVariables false
set_option linter.unusedSimpArgs false
namespace MX
open Turn
attribute [local go_sem ↓] Go.wp_at_zero Go.wp_at_succ
open Words
theorem blk_left (xs ys : List Int) (m k : Nat) (h : xs.length = 64 * m) (hk : k < m) : blk (xs ++ ys) k = blk xs k := by
  unfold blk
  rw [List.drop_append_of_le_length (by omega), List.take_append_of_le_length (by rw [List.length_drop]; omega)]
theorem blk_right (xs ys : List Int) (m k : Nat) (h : xs.length = 64 * m) : blk (xs ++ ys) (m + k) = blk ys k := by
  unfold blk
  rw [show 64 * (m + k) = xs.length + 64 * k by omega, List.drop_append, List.drop_of_length_le (by omega), List.nil_append]
  congr 2
  omega
theorem chH_left (hs xs ys : List Int) (n : Int) (m : Nat) (h : xs.length = 64 * m) (k : Nat) (hk : k ≤ m) : chH hs (xs ++ ys) n k = chH hs xs n k := by
  induction k with
  | zero => rfl
  | succ k ih => rw [chH_succ, chH_succ, ih (by omega), blk_left xs ys m k h (by omega)]
theorem chH_right (hs xs ys : List Int) (n : Int) (m : Nat) (h : xs.length = 64 * m) (k : Nat) : chH hs (xs ++ ys) n (m + k) = chH (chH hs xs n m) ys (cnt n m) k := by
  induction k with
  | zero => exact chH_left hs xs ys n m h m (Nat.le_refl _)
  | succ k ih => rw [← Nat.add_assoc, chH_succ, chH_succ, ih, blk_right xs ys m k h, cnt_add, Nat.add_assoc]
theorem chR_parts (hs xs ys : List Int) (n : Int) (h : xs.length % 64 = 0) (h' : ys.length % 64 = 0) : chR (chR hs xs n) ys (chC xs n) = chR hs (xs ++ ys) n := by
  unfold chR chC
  have h2 : (xs ++ ys).length % 64 = 0 := by rw [List.length_append]; omega
  rw [if_pos h, if_pos h', if_pos h, if_pos h2, ← chH_right hs xs ys n (xs.length / 64) (by omega)]
  congr 1
  rw [List.length_append]; omega
theorem chC_parts (xs ys : List Int) (n : Int) (h : xs.length % 64 = 0) (h' : ys.length % 64 = 0) : chC ys (chC xs n) = chC (xs ++ ys) n := by
  unfold chC
  have h2 : (xs ++ ys).length % 64 = 0 := by rw [List.length_append]; omega
  rw [if_pos h, if_pos h', if_pos h2, cnt_add]
  congr 1
  rw [List.length_append]; omega
theorem chC_whole (xs : List Int) (n : Int) (h : xs.length % 64 = 0) : chC xs n = (n + (xs.length : Int)) % 18446744073709551616 := by
  unfold chC
  rw [if_pos h]
  unfold cnt
  congr 2
  omega
theorem own_row_cap {w : World} {B : Nat} {v : Value} {zs : List Int} (h : w.ownsRow B 5 1 v zs.length (LW.vs zs)) : ∃ a cap, v = .slice a zs.length cap ∧ LW.Row w a zs ∧ zs.length ≤ cap := by
  rcases h.2 with ⟨rfl, h0⟩ | ⟨g, cap, cur, rfl, hg, hh, hn, hm, hc, ht⟩
  · exact ⟨none, 0, by rw [h0], .inl (List.length_eq_zero_iff.1 h0), by omega⟩
  · refine ⟨_, cap, rfl, .inr ⟨g, 0, rfl, fun i hi => ?_⟩, hn⟩
    rw [Nat.zero_add, h.cellAt i (by omega), LW.vs_get zs i hi]
theorem own_keep {w w' : World} {B n : Nat} {v : Value} {xs : List Value} (h : w.ownsRow B 5 1 v n xs) (hb : Below w.heap.size w w') : w'.ownsRow B 5 1 v n xs := by
  rcases h.2 with ⟨rfl, h0⟩ | ⟨g, cap, cur, rfl, hg, hh, hn, hm, hc, ht⟩
  · exact ⟨h.1, .inl ⟨rfl, h0⟩⟩
  · exact ⟨h.1, .inr ⟨g, cap, cur, rfl, hg, blk_keep hh hb, hn, hm, hc, ht⟩⟩
set_option maxRecDepth 100000 in
set_option maxHeartbeats 1000000 in
theorem partsWalk (hs ms : List Int) (n : Int) (la no : Bool) (a : Option Addr) (ca : Nat) (xs : List Int) (b : Option Addr) (cb : Nat) (ys : List Int) (w : World) (to : Tab w 1 .u8 ordL) (ti : Tab w 0 .u32 ivL) (hl : hs.length = 8) (hm : ms.length = 16) (hw : Ws hs) (hM : Ws ms) (wn : 0 ≤ n) (wm : n < 18446744073709551616)
    (hx : Byt xs) (hrx : LW.Row w a xs) (hnx : a = none → ca = 0) (hcx : xs.length ≤ ca) (hbx : xs.length ≤ 140737488351232) (hy : Byt ys) (hry : LW.Row w b ys) (hny : b = none → cb = 0) (hcy : ys.length ≤ cb) (hby : ys.length ≤ 140737488351232) (hsum : xs.length + ys.length ≤ 140737488351232) :
    Calls Tryd.prog 7 #[.agg (runC hs ms n la no), .slice a xs.length ca, .slice b ys.length cb] w fun e w' => e = .returned (.bool true) ∧ Below w.heap.size w w' := by
  have j8 : (Tryd.prog.info? 23).map (·.size) = some (hs.map (Value.int .u32)).length := by rw [List.length_map, hl]; kernel_rfl
  have k8 := info8 hs hl
  have o8 := size8 (List.replicate 8 0) hs rfl hl
  have hsc := fun Z B => run_cell hs ms n la no hl hm Z B
  have hal := fun Y (h : Below w.heap.size w Y) => alive Y (ti.below h)
  have hX := chR_ok n hl hw hx
  have hY := chR_ok (chC xs n) hX.1 hX.2 hy
  have hCx := chC_bd xs n
  have p1 := fun Y (hb : Below w.heap.size w Y) (h : LW.Row Y a xs) => chainT hs a ca xs n Y (ti.below hb) (to.below hb) hl hw hx h hcx hbx wn wm
  have p2 := fun Y (hb : Below w.heap.size w Y) (h : LW.Row Y b ys) => chainT (chR hs xs n) b cb ys (chC xs n) Y (ti.below hb) (to.below hb) hX.1 hX.2 hy h hcy hby hCx.1 hCx.2
  have p3 := fun Y (hb : Below w.heap.size w Y) (x : Option Addr) (cx : Nat) (h : LW.Row Y x (xs ++ ys)) (hcx : (xs ++ ys).length ≤ cx) => chainT hs x cx (xs ++ ys) n Y (ti.below hb) (to.below hb) hl hw (Byt.append hx hy) h hcx (by rw [List.length_append]; exact hsum) wn wm
  have hcw := chC_whole (xs ++ ys) n
  rw [List.length_append] at hcw
  have hpr := chR_parts hs xs ys n
  have hpc := chC_parts xs ys n
  have hap : (xs ++ ys).length = xs.length + ys.length := List.length_append
  have hee : chE xs = (if xs.length % 64 = 0 then 0 else 1) ∧ chE ys = (if ys.length % 64 = 0 then 0 else 1) ∧ chE (xs ++ ys) = (if (xs.length + ys.length) % 64 = 0 then 0 else 1) := ⟨rfl, rfl, by unfold chE; rw [List.length_append]⟩
  obtain ⟨X, hXe⟩ : ∃ X, chR hs xs n = X := ⟨_, rfl⟩
  obtain ⟨c1, hc1e⟩ : ∃ c, chC xs n = c := ⟨_, rfl⟩
  rw [hXe, hc1e] at p1 p2 hpr
  rw [hc1e] at hpc
  rw [hXe] at hX hY
  rw [hc1e] at hY
  obtain ⟨Y, hYe⟩ : ∃ Y, chR X ys c1 = Y := ⟨_, rfl⟩
  obtain ⟨c2, hc2e⟩ : ∃ c, chC ys c1 = c := ⟨_, rfl⟩
  rw [hYe, hc2e] at p2
  rw [hYe] at hpr hY
  rw [hc2e] at hpc
  have iX := info8 X hX.1
  have oX := size8 (List.replicate 8 0) X rfl hX.1
  have iY := info8 Y hY.1
  have oY := size8 (List.replicate 8 0) Y rfl hY.1
  have q1 := fun Z => eq8 Z Y Y hY.1 hY.1
  simp only [decide_true] at q1
  clear hXe hc1e hYe hc2e hX hY hCx to ti hl hm hw hM hx hy hcx hcy
  obtain ⟨lx, hlx⟩ : ∃ l, xs.length = l := ⟨_, rfl⟩
  obtain ⟨ly, hly⟩ : ∃ l, ys.length = l := ⟨_, rfl⟩
  rw [hlx] at p1 hpr hpc hbx hsum hcw hap hee ⊢
  rw [hly] at p2 hpr hpc hby hsum hcw hap hee ⊢
  rw [hap] at p3
  have HLX := TW.hide hlx
  have HLY := TW.hide hly
  have HAP := TW.hide hap
  clear hlx hly hap
  have J8 := TW.hide j8
  have K8 := TW.hide k8
  have O8 := TW.hide o8
  have HSC := TW.hide hsc
  have HAL := TW.hide hal
  have P1 := TW.hide p1
  have P2 := TW.hide p2
  have P3 := TW.hide p3
  have IX := TW.hide iX
  have OX := TW.hide oX
  have IY := TW.hide iY
  have OY := TW.hide oY
  have Q1 := TW.hide q1
  have HRX := TW.hide hrx
  have HRY := TW.hide hry
  have HNX := TW.hide hnx
  have HNY := TW.hide hny
  clear j8 k8 o8 hsc hal p1 p2 p3 iX oX iY oY q1 hrx hry hnx hny
  have hb := ((Below.refl w.heap.size w).alloc (Nat.le_refl _) (.cells (runC hs ms n la no) 43))
  have n0 := (heap_new w (.cells (runC hs ms n la no) 43))
  go_enter Tryd.func7, Tryd.ntmps7
  refine wp_seq_k fun K hK => ?_
  have HK := TW.hide hK
  clear hK
  go_wp2
  refine HK.out _ _ ?_
  clear HK K
  change Code.wp _ _ _ _ (w.alloc (.cells (runC hs ms n la no) 43))
  generalize hWW : w.alloc (.cells (runC hs ms n la no) 43) = W at hb n0 ⊢
  have hW : W.heap.size = w.heap.size + 1 := by rw [← hWW]; simp
  clear hWW
  generalize hB : w.heap.size = B at *
  have HT : Hid (W.heap[B]? = some (.cells (runC hs ms n la no) 43 (0, 0)) ∧ Below B w W) := ⟨n0, hb⟩
  clear n0 hb hW
  refine wp_seq_k fun KK hK => ?_
  have HK0 := TW.hide hK
  clear hK
  refine wp_region_noPanic ?_
  refine RG.wp_region_L (fun Z => True) (fun Z => Z.heap[B]? = some (.cells (runC hs ms n la no) 43 (0, 0)) ∧ Below B w Z) [] (by kernel_rfl) ?_
  refine RG.wpL_any fun Yr hY => ?_
  have HTr : Hid (Yr.heap[B]? = some (.cells (runC hs ms n la no) 43 (0, 0)) ∧ Below B w Yr) := by rw [hY]; exact ⟨HT.out.1, below_drewN HT.out.2 1⟩
  clear hY
  refine RG.wpL_take (fuel := 3) (a' := ?Ar) [0, 1, 2, 3] (by kernel_rfl) (by kernel_rfl) (fun _ _ _ _ _ h => h) HTr.out (fun _ => trivial) ?rr ?_
  case rr =>
    refine RG.RunsIf.weak (v := ?_) (by rfl) (by rfl) (fun Z hT => ?_) ?_
    rotate_left
    · obtain ⟨_, _, c0, c1, c2⟩ := HSC.out Z B hT.1
      go_simp
      rfl
    simp only [Act.put, List.setIfInBounds_toArray, List.set_cons_zero, List.set_cons_succ, List.getElem_toArray, List.getElem_cons_zero, List.getElem_cons_succ]
    refine RG.RunsIf.weak (by rfl) (by rfl) (fun Z hT => exec_load_mid 23 _ (by rfl) (B) 0 (by rfl) (hs.map (Value.int .u32)) _ (HSC.out Z B hT.1).1 Tryd.underlying23 rfl J8.out) ?_
    simp only [Act.put, List.setIfInBounds_toArray, List.set_cons_zero, List.set_cons_succ, List.getElem_toArray, List.getElem_cons_zero, List.getElem_cons_succ]
    refine RG.RunsIf.weak (v := ?_) (by rfl) (by rfl) (fun Z hT => ?_) ?_
    rotate_left
    · obtain ⟨_, _, c0, c1, c2⟩ := HSC.out Z B hT.1
      go_simp
      rfl
    simp only [Act.put, List.setIfInBounds_toArray, List.set_cons_zero, List.set_cons_succ, List.getElem_toArray, List.getElem_cons_zero, List.getElem_cons_succ]
    refine RG.RunsIf.weak (v := ?_) (by rfl) (by rfl) (fun Z hT => ?_) ?_
    rotate_left
    · obtain ⟨_, _, c0, c1, c2⟩ := HSC.out Z B hT.1
      go_simp
      rfl
    simp only [Act.put, List.setIfInBounds_toArray, List.set_cons_zero, List.set_cons_succ, List.getElem_toArray, List.getElem_cons_zero, List.getElem_cons_succ]
    exact RG.RunsIf.nil
  have hyl : B < Yr.heap.size := blk_lt HTr.out.1
  have T2 : Hid ((Yr.alloc (.cells #[.int .u32 0, .int .u32 0, .int .u32 0, .int .u32 0, .int .u32 0, .int .u32 0, .int .u32 0, .int .u32 0] 23)).heap[B]? = some (.cells (runC hs ms n la no) 43 (0, 0)) ∧ Below B w (Yr.alloc (.cells #[.int .u32 0, .int .u32 0, .int .u32 0, .int .u32 0, .int .u32 0, .int .u32 0, .int .u32 0, .int .u32 0] 23))) := ⟨blk_alloc HTr.out.1, HTr.out.2.alloc (by omega) _⟩
  have T2n := TW.hide (heap_new Yr (.cells #[.int .u32 0, .int .u32 0, .int .u32 0, .int .u32 0, .int .u32 0, .int .u32 0, .int .u32 0, .int .u32 0] 23))
  refine RG.wpL_step (i := 4) (by kernel_rfl) (by rfl) (by rfl) (fun KX hK => ?_)
  have HK := TW.hide hK
  clear hK
  go_simp
  refine HK.out _ _ T2.out (fun _ => trivial) ?_
  clear HK KX
  have T3 : Hid (((Yr.alloc (.cells #[.int .u32 0, .int .u32 0, .int .u32 0, .int .u32 0, .int .u32 0, .int .u32 0, .int .u32 0, .int .u32 0] 23)).setRow Yr.heap.size (K .u32 hs)).heap[B]? = some (.cells (runC hs ms n la no) 43 (0, 0)) ∧ Below B w ((Yr.alloc (.cells #[.int .u32 0, .int .u32 0, .int .u32 0, .int .u32 0, .int .u32 0, .int .u32 0, .int .u32 0, .int .u32 0] 23)).setRow Yr.heap.size (K .u32 hs))) := ⟨by rw [setRow_other _ _ _ _ (by omega)]; exact T2.out.1, below_setRow T2.out.2 (by omega)⟩
  have T3n := TW.hide (setRow_heap _ _ _ (K .u32 hs) _ _ T2n.out)
  refine RG.wpL_step (i := 5) (by kernel_rfl) (by rfl) (by rfl) (fun KX hK => ?_)
  have HK := TW.hide hK
  clear hK
  refine wp_store_row 23 _ _ (by rfl) Yr.heap.size (K .u32 hs) (by rfl) (by rfl) 23 _ T2n.out K8.out O8.out (K_one _ _) ?_
  simp only [Act.put, List.setIfInBounds_toArray, List.set_cons_zero, List.set_cons_succ, List.getElem_toArray, List.getElem_cons_zero, List.getElem_cons_succ]
  refine HK.out _ _ T3.out (fun _ => trivial) ?_
  clear HK KX T2 T2n
  generalize (Yr.alloc (.cells #[.int .u32 0, .int .u32 0, .int .u32 0, .int .u32 0, .int .u32 0, .int .u32 0, .int .u32 0, .int .u32 0] 23)).setRow Yr.heap.size (K .u32 hs) = Y3 at *
  generalize Yr.heap.size = g at *
  refine RG.wpL_step (i := 6) (by kernel_rfl) (by rfl) (by rfl) (fun KX hK => ?_)
  have HK := TW.hide hK
  clear hK
  go_simp
  refine HK.out _ _ T3.out (fun _ => trivial) ?_
  clear HK KX
  refine RG.wpL_done (by kernel_rfl) ?_ _
  refine NoPanic.normal ?_
  refine HK0.out _ _ ?_
  clear HK0 KK HTr HT
  have NG : Hid (Y3.heap[g]? = some (.cells (K .u32 hs) 23 (0, 0))) := T3n.out
  have NB : Hid (Below B w Y3) := T3.out.2
  have hBY : B < Y3.heap.size := blk_lt T3.out.1
  clear T3 T3n
  refine wp_seq_k fun KK hK => ?_
  have HK := TW.hide hK
  clear hK
  go_wp2_with fail
  refine (HAL.out _ NB.out).mono ?_
  rintro e w0 ⟨rfl, hb0⟩
  have NG' := TW.hide (blk_keep NG.out hb0)
  have NB' : Hid (Below B w w0) := below_row NB.out hb0 (by omega)
  have hBw : B < w0.heap.size := Nat.lt_of_lt_of_le hBY hb0.size
  clear hb0 NG NB hBY
  have NG := NG'
  have NB := NB'
  clear NG' NB'
  go_wp2
  refine HK.out _ _ ?_
  clear HK KK
  have hgw : g < w0.heap.size := blk_lt NG.out
  have RX := TW.hide (HRX.out.below (hB ▸ NB.out))
  have RY := TW.hide (HRY.out.below (hB ▸ NB.out))
  refine wp_seq_k fun KK hK => ?_
  have HK := TW.hide hK
  clear hK
  go_wp2
  refine HK.out _ _ ?_
  clear HK KK
  refine wp_seq_k fun KK hK => ?_
  have HK := TW.hide hK
  clear hK
  go_wp2_with (at_builtin; refine wpList_copy_own rfl _ _ rfl (.slice none 0 0) a ca xs [] 0 lx HLX.out rfl (World.ownsRow_nil w0 w0.heap.size 5 1) rfl RX.out HNX.out (by omega) (Nat.le_refl _) ?_)
  intro v1 w1 hown1 hbel1
  have O1 : Hid (w1.ownsRow w0.heap.size 5 1 v1 lx (LW.vs xs)) := by
    show w1.ownsRow _ _ _ _ _ _
    simpa using hown1
  have B1 := TW.hide hbel1
  clear hown1 hbel1
  go_wp2
  refine HK.out _ _ ?_
  clear HK KK
  refine wp_seq_k fun KK hK => ?_
  have HK := TW.hide hK
  clear hK
  go_wp2_with (at_builtin; refine wpList_copy_own rfl _ _ rfl v1 b cb ys xs lx ly HLY.out rfl O1.out rfl (RY.out.below B1.out) HNY.out (by omega) B1.out.size ?_)
  intro v2 wb hown2 hbel2
  have B2 : Hid (Below w0.heap.size w0 wb) := B1.out.trans hbel2
  rw [← HAP.out] at hown2
  obtain ⟨x, cx, hxe, hxr, hxc⟩ := own_row_cap hown2
  rw [HAP.out] at hxe hxc
  subst hxe
  have RA := TW.hide hxr
  clear hown2 hbel2 O1 B1 hxr
  go_wp2
  refine HK.out _ _ ?_
  clear HK KK
  have NG2 := TW.hide (blk_keep NG.out B2.out)
  have NB2 : Hid (Below B w wb) := NB.out.trans (B2.out.mono (by omega))
  have RX2 := TW.hide (RX.out.below B2.out)
  have RY2 := TW.hide (RY.out.below B2.out)
  clear NG NB RX RY B2 HRX HRY
  by_cases hx64 : lx % 64 = 0
  · by_cases hy64 : ly % 64 = 0
    · have hz64 : (lx + ly) % 64 = 0 := by omega
      have hpr2 := hpr hx64 hy64
      have hpc2 := hpc hx64 hy64
      have hcw2 := hcw hz64
      obtain ⟨he1, he2, he3⟩ := hee
      rw [if_pos hx64] at he1
      rw [if_pos hy64] at he2
      rw [if_pos hz64] at he3
      have p1 := P1.out
      have p2 := P2.out
      have p3 := P3.out
      rw [he1] at p1
      rw [he2] at p2
      rw [he3, ← hpr2, ← hpc2] at p3
      rw [← hpc2] at hcw2
      have HCW := TW.hide hcw2
      clear P1 P2 P3 hpr hpc hcw hpr2 hpc2 hcw2 he1 he2 he3
      have P1 := TW.hide p1
      have P2 := TW.hide p2
      have P3 := TW.hide p3
      clear p1 p2 p3
      have hrx : ((lx : Int).tmod 64 != 0) = false := by rw [Int.tmod_eq_emod_of_nonneg (by omega)]; simp; omega
      have hry : ((ly : Int).tmod 64 != 0) = false := by rw [Int.tmod_eq_emod_of_nonneg (by omega)]; simp; omega
      have HBB : Hid (Below wb.heap.size wb wb) := Below.refl _ _
      have hBwb : B ≤ wb.heap.size := by have := NB2.out.size; omega
      refine wp_seq_k fun KK hK => ?_
      have HK := TW.hide hK
      clear hK
      go_wp2
      refine HK.out _ _ ?_
      clear HK KK hrx hry
      refine wp_seq_k fun KK hK => ?_
      have HK := TW.hide hK
      clear hK
      go_wp2_with (first | (refine wpList_load_row (by rfl) 23 _ (by rfl) (g) (by rfl) 23 (K .u32 hs) (0, 0) _ NG2.out Tryd.underlying23 rfl K8.out ?_))
      refine (P1.out _ (hB ▸ (NB2.out.trans (HBB.out.mono hBwb))) (RX2.out.below HBB.out)).mono ?_
      rintro e w1 ⟨rfl, hb1⟩
      have NG2' := TW.hide (blk_keep NG2.out hb1)
      have HBB' : Hid (Below wb.heap.size wb w1) := below_row HBB.out hb1 (le_of_below HBB.out (by omega))
      clear hb1
      clear NG2 HBB
      have NG2 := NG2'
      have HBB := HBB'
      clear NG2' HBB'
      have hl_g1_NG2 := blk_lt NG2.out
      go_wp2_with (first | (refine wpList_store_row (by rfl) 23 _ _ (by rfl) w1.heap.size (K .u32 X) (by rfl) (by rfl) 23 _ (heap_new w1 _) IX.out OX.out (K_one _ _) ?_))
      have n1 := setRow_heap _ _ _ (K .u32 X) _ _ (heap_new w1 (.cells #[.int .u32 0, .int .u32 0, .int .u32 0, .int .u32 0, .int .u32 0, .int .u32 0, .int .u32 0, .int .u32 0] 23))
      have bx1 := below_setRow (cs := (K .u32 X)) ((Below.refl w1.heap.size w1).alloc (Nat.le_refl _) (.cells #[.int .u32 0, .int .u32 0, .int .u32 0, .int .u32 0, .int .u32 0, .int .u32 0, .int .u32 0, .int .u32 0] 23)) (g := w1.heap.size) (Nat.le_refl _)
      generalize (w1.alloc (.cells #[.int .u32 0, .int .u32 0, .int .u32 0, .int .u32 0, .int .u32 0, .int .u32 0, .int .u32 0, .int .u32 0] 23)).setRow w1.heap.size (K .u32 X) = X1 at n1 bx1 ⊢
      have NG2' := TW.hide (blk_keep NG2.out bx1)
      have HBB' : Hid (Below wb.heap.size wb X1) := below_row HBB.out bx1 (le_of_below HBB.out (by omega))
      have NX := TW.hide n1
      clear n1 bx1
      clear NG2 HBB
      have NG2 := NG2'
      have HBB := HBB'
      clear NG2' HBB'
      generalize w1.heap.size = g1 at *
      refine HK.out _ _ ?_
      clear HK KK
      refine wp_seq_k fun KK hK => ?_
      have HK := TW.hide hK
      clear hK
      go_wp2_with (first | (refine wpList_load_row (by rfl) 23 _ (by rfl) (g1) (by rfl) 23 (K .u32 X) (0, 0) _ NX.out Tryd.underlying23 rfl IX.out ?_))
      refine (P2.out _ (hB ▸ (NB2.out.trans (HBB.out.mono hBwb))) (RY2.out.below HBB.out)).mono ?_
      rintro e w2 ⟨rfl, hb2⟩
      have NG2' := TW.hide (blk_keep NG2.out hb2)
      have NX' := TW.hide (blk_keep NX.out hb2)
      have HBB' : Hid (Below wb.heap.size wb w2) := below_row HBB.out hb2 (le_of_below HBB.out (by omega))
      clear hb2
      clear NG2 NX HBB
      have NG2 := NG2'
      have NX := NX'
      have HBB := HBB'
      clear NG2' NX' HBB'
      have hl_g2_NG2 := blk_lt NG2.out
      have hl_g2_NX := blk_lt NX.out
      go_wp2_with (first | (refine wpList_store_row (by rfl) 23 _ _ (by rfl) w2.heap.size (K .u32 Y) (by rfl) (by rfl) 23 _ (heap_new w2 _) IY.out OY.out (K_one _ _) ?_))
      have n2 := setRow_heap _ _ _ (K .u32 Y) _ _ (heap_new w2 (.cells #[.int .u32 0, .int .u32 0, .int .u32 0, .int .u32 0, .int .u32 0, .int .u32 0, .int .u32 0, .int .u32 0] 23))
      have bx2 := below_setRow (cs := (K .u32 Y)) ((Below.refl w2.heap.size w2).alloc (Nat.le_refl _) (.cells #[.int .u32 0, .int .u32 0, .int .u32 0, .int .u32 0, .int .u32 0, .int .u32 0, .int .u32 0, .int .u32 0] 23)) (g := w2.heap.size) (Nat.le_refl _)
      generalize (w2.alloc (.cells #[.int .u32 0, .int .u32 0, .int .u32 0, .int .u32 0, .int .u32 0, .int .u32 0, .int .u32 0, .int .u32 0] 23)).setRow w2.heap.size (K .u32 Y) = X2 at n2 bx2 ⊢
      have NG2' := TW.hide (blk_keep NG2.out bx2)
      have NX' := TW.hide (blk_keep NX.out bx2)
      have HBB' : Hid (Below wb.heap.size wb X2) := below_row HBB.out bx2 (le_of_below HBB.out (by omega))
      have NY := TW.hide n2
      clear n2 bx2
      clear NG2 NX HBB
      have NG2 := NG2'
      have NX := NX'
      have HBB := HBB'
      clear NG2' NX' HBB'
      generalize w2.heap.size = g2 at *
      refine HK.out _ _ ?_
      clear HK KK
      refine wp_seq_k fun KK hK => ?_
      have HK := TW.hide hK
      clear hK
      go_wp2_with (first | (refine wpList_load_row (by rfl) 23 _ (by rfl) (g) (by rfl) 23 (K .u32 hs) (0, 0) _ NG2.out Tryd.underlying23 rfl K8.out ?_))
      refine (P3.out _ (hB ▸ (NB2.out.trans (HBB.out.mono hBwb))) x cx (RA.out.below HBB.out) hxc).mono ?_
      rintro e w3 ⟨rfl, hb3⟩
      have NG2' := TW.hide (blk_keep NG2.out hb3)
      have NX' := TW.hide (blk_keep NX.out hb3)
      have NY' := TW.hide (blk_keep NY.out hb3)
      have HBB' : Hid (Below wb.heap.size wb w3) := below_row HBB.out hb3 (le_of_below HBB.out (by omega))
      clear hb3
      clear NG2 NX NY HBB
      have NG2 := NG2'
      have NX := NX'
      have NY := NY'
      have HBB := HBB'
      clear NG2' NX' NY' HBB'
      have hl_g3_NG2 := blk_lt NG2.out
      have hl_g3_NX := blk_lt NX.out
      have hl_g3_NY := blk_lt NY.out
      go_wp2_with (first | (refine wpList_store_row (by rfl) 23 _ _ (by rfl) w3.heap.size (K .u32 Y) (by rfl) (by rfl) 23 _ (heap_new w3 _) IY.out OY.out (K_one _ _) ?_))
      have n3 := setRow_heap _ _ _ (K .u32 Y) _ _ (heap_new w3 (.cells #[.int .u32 0, .int .u32 0, .int .u32 0, .int .u32 0, .int .u32 0, .int .u32 0, .int .u32 0, .int .u32 0] 23))
      have bx3 := below_setRow (cs := (K .u32 Y)) ((Below.refl w3.heap.size w3).alloc (Nat.le_refl _) (.cells #[.int .u32 0, .int .u32 0, .int .u32 0, .int .u32 0, .int .u32 0, .int .u32 0, .int .u32 0, .int .u32 0] 23)) (g := w3.heap.size) (Nat.le_refl _)
      generalize (w3.alloc (.cells #[.int .u32 0, .int .u32 0, .int .u32 0, .int .u32 0, .int .u32 0, .int .u32 0, .int .u32 0, .int .u32 0] 23)).setRow w3.heap.size (K .u32 Y) = X3 at n3 bx3 ⊢
      have NG2' := TW.hide (blk_keep NG2.out bx3)
      have NX' := TW.hide (blk_keep NX.out bx3)
      have NY' := TW.hide (blk_keep NY.out bx3)
      have HBB' : Hid (Below wb.heap.size wb X3) := below_row HBB.out bx3 (le_of_below HBB.out (by omega))
      have NZ := TW.hide n3
      clear n3 bx3
      clear NG2 NX NY HBB
      have NG2 := NG2'
      have NX := NX'
      have NY := NY'
      have HBB := HBB'
      clear NG2' NX' NY' HBB'
      generalize w3.heap.size = g3 at *
      refine HK.out _ _ ?_
      clear HK KK
      have q := Q1.out X3
      have hcc : (c2 == (n + ((lx : Int) + (ly : Int))) % 18446744073709551616) = true := by rw [HCW.out]; simp
      have hwl : IntKind.u64.wrap ((lx : Int) + (ly : Int)) = (lx : Int) + (ly : Int) := by rw [IntKind.wrap_u64]; omega
      go_wp2_with (first | (refine wpList_val (.agg (K .u32 Y)) (by rfl) (exec_load_row' 23 _ (by rfl) (g2) (by rfl) 23 (K .u32 Y) (0, 0) _ NY.out Tryd.underlying23 rfl IY.out) ?_) | (refine wpList_val (.agg (K .u32 Y)) (by rfl) (exec_load_row' 23 _ (by rfl) (g3) (by rfl) 23 (K .u32 Y) (0, 0) _ NZ.out Tryd.underlying23 rfl IY.out) ?_))
      go_ret
      have fin := NB2.out.trans (HBB.out.mono hBwb)
      exact ⟨by simp [HCW.out, IntKind.wrap_u64], fin⟩
    · have hrx : ((lx : Int).tmod 64 != 0) = false := by rw [Int.tmod_eq_emod_of_nonneg (by omega)]; simp; omega
      have hry : ((ly : Int).tmod 64 != 0) = true := by rw [Int.tmod_eq_emod_of_nonneg (by omega)]; simp; omega
      go_wp2
      go_ret
      exact ⟨rfl, NB2.out⟩
  · have hrx : ((lx : Int).tmod 64 != 0) = true := by rw [Int.tmod_eq_emod_of_nonneg (by omega)]; simp; omega
    go_wp2
    go_ret
    exact ⟨rfl, NB2.out⟩
end MX
end Go.Proofs.YtecepllidmkmhabDoor
