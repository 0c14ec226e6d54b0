/-
  What the call Init (the program) gives, for all states, counts and flags.
-/
import Derived.Test.YtkilackhomhpgabDoorForth
import Derived.Test.YtkilackhomhpgabDoorRounds
import Derived.Test.YtkilackhomhpgabDoorEql
namespace Go.Proofs.YtkilackhomhpgabDoor
open Go.RowKit
set_option linter.unusedVariables false
set_option linter.unusedSimpArgs false
namespace MX
open Turn
attribute [local go_sem ↓] Go.wp_at_zero Go.wp_at_succ
theorem info23 (l : List Int) (h : l.length = 8) : (Tryd.prog.info? 23).map (·.size) = some (K .u64 l).size := by rw [K_size, h]; kernel_rfl
theorem size8 (l l' : List Int) (h : l.length = 8) (h' : l'.length = 8) : (K .u64 l).size = (K .u64 l').size := by rw [K_size, K_size, h, h']
theorem cell_other {Z : World} {g p o i : Nat} {u : Value} (hne : g ≠ p) : (Z.setCell ⟨p, o, none⟩ u).cell? ⟨g, i, none⟩ = Z.cell? ⟨g, i, none⟩ := by
  simp only [World.cell?, heap_setCell_other Z ⟨p, o, none⟩ g u hne]
theorem ivL_length : ivL.length = 8 := rfl
theorem ivL_Ws : Ws ivL := by
  intro x hx
  have : ivL.all (fun x => decide (0 ≤ x) && decide (x < 18446744073709551616)) = true := by decide +kernel
  have h := List.all_eq_true.1 this x hx
  simp only [Bool.and_eq_true, decide_eq_true_eq] at h
  exact h
/-- All bits turned. -/
def co (x : Int) : Int := xo 18446744073709551615 x
theorem co_W (x : Int) (h : W x) : W (co x) := xo_bd _ _ ⟨by omega, by omega⟩ h
theorem join_set (a b : List Int) (k : Nat) (x y : Int) (ha : a.length = 8) (hk : k < 8) : ((a ++ b).set k x).set (k + 8) y = a.set k x ++ b.set k y := by
  rw [List.set_append_left _ _ (by omega), List.set_append_right _ _ (by simp; omega), List.length_set, show k + 8 - a.length = k by omega]
theorem join_get (a b : List Int) (k : Nat) (ha : a.length = 8) : (a ++ b).getD (k + 8) 0 = b.getD k 0 := by
  rw [List.getD_eq_getElem?_getD, List.getElem?_append_right (by omega), show k + 8 - a.length = k by omega, List.getD_eq_getElem?_getD]
/-- What goes into the rounds. -/
def init2 (hs : List Int) (lo hi : Int) : List Int := ((hs ++ ivL).set 12 (xo (ivL.getD 4 0) lo)).set 13 (xo (ivL.getD 5 0) hi)
def init3 (hs : List Int) (lo hi : Int) (la : Bool) : List Int := if la then (init2 hs lo hi).set 14 (co (ivL.getD 6 0)) else init2 hs lo hi
def initL (hs : List Int) (lo hi : Int) (la no : Bool) : List Int := if no then (init3 hs lo hi la).set 15 (co (ivL.getD 7 0)) else init3 hs lo hi la
theorem init2_length (hs : List Int) (lo hi : Int) (h : hs.length = 8) : (init2 hs lo hi).length = 16 := by simp [init2, h, ivL_length]
theorem init3_length (hs : List Int) (lo hi : Int) (la : Bool) (h : hs.length = 8) : (init3 hs lo hi la).length = 16 := by
  unfold init3; split <;> simp [init2_length hs lo hi h]
theorem initL_length (hs : List Int) (lo hi : Int) (la no : Bool) (h : hs.length = 8) : (initL hs lo hi la no).length = 16 := by
  unfold initL; split <;> simp [init3_length hs lo hi la h]
theorem init2_Ws {hs : List Int} {lo hi : Int} (h : Ws hs) (hl : W lo) (hh : W hi) : Ws (init2 hs lo hi) := by
  refine Ws.set (Ws.set ?_ (xo_bd _ _ (ivL_Ws.get _) hl) _) (xo_bd _ _ (ivL_Ws.get _) hh) _
  intro x hx
  rcases List.mem_append.1 hx with h' | h'
  · exact h x h'
  · exact ivL_Ws x h'
theorem init3_Ws {hs : List Int} {lo hi : Int} (la : Bool) (h : Ws hs) (hl : W lo) (hh : W hi) : Ws (init3 hs lo hi la) := by
  unfold init3; split
  · exact (init2_Ws h hl hh).set (co_W _ (ivL_Ws.get _)) _
  · exact init2_Ws h hl hh
theorem initL_Ws {hs : List Int} {lo hi : Int} (la no : Bool) (h : Ws hs) (hl : W lo) (hh : W hi) : Ws (initL hs lo hi la no) := by
  unfold initL; split
  · exact (init3_Ws la h hl hh).set (co_W _ (ivL_Ws.get _)) _
  · exact init3_Ws la h hl hh
theorem init0_get (hs : List Int) (k : Nat) (h : hs.length = 8) : (hs ++ ivL).getD (k + 8) 0 = ivL.getD k 0 := join_get hs ivL k h
theorem init1_get (hs : List Int) (x : Int) (h : hs.length = 8) : ((hs ++ ivL).set 12 x).getD 13 0 = ivL.getD 5 0 := by
  rw [getD_set_other _ _ _ _ (by omega)]; exact join_get hs ivL 5 h
theorem init2_get (hs : List Int) (lo hi : Int) (h : hs.length = 8) : (init2 hs lo hi).getD 14 0 = ivL.getD 6 0 := by
  unfold init2; rw [getD_set_other _ _ _ _ (by omega), getD_set_other _ _ _ _ (by omega)]; exact join_get hs ivL 6 h
theorem init3_get (hs : List Int) (lo hi : Int) (la : Bool) (h : hs.length = 8) : (init3 hs lo hi la).getD 15 0 = ivL.getD 7 0 := by
  have h2 : (init2 hs lo hi).getD 15 0 = ivL.getD 7 0 := by
    unfold init2; rw [getD_set_other _ _ _ _ (by omega), getD_set_other _ _ _ _ (by omega)]; exact join_get hs ivL 7 h
  unfold init3; split
  · rw [getD_set_other _ _ _ _ (by omega)]; exact h2
  · exact h2
set_option maxRecDepth 100000 in
set_option maxHeartbeats 4000000 in
theorem init (hs : List Int) (lo hi : Int) (la no : Bool) (w : World) (ti : Tab w 0 .u64 ivL) (hl : hs.length = 8) (hw : Ws hs) (wl : W lo) (wh : W hi) :
    Calls Tryd.prog 6 #[.agg (K .u64 hs), .agg #[.int .u64 lo, .int .u64 hi], .bool la, .bool no] w fun e w' => e = .returned (.agg (K .u64 (initL hs lo hi la no))) ∧ Below w.heap.size w w' := by
  have hb := (((((Below.refl w.heap.size w).alloc (Nat.le_refl _) (.cells (K .u64 hs) 23)).alloc (by simp; try omega) (.cells #[.int .u64 lo, .int .u64 hi] 26)).alloc (by simp; try omega) (.cells (K .u64 (List.replicate 16 0)) 24)).alloc (by simp; try omega) (.cells (K .u64 (List.replicate 16 0)) 24))
  have n0 := (blk_alloc (o' := .cells (K .u64 (List.replicate 16 0)) 24) (blk_alloc (o' := .cells (K .u64 (List.replicate 16 0)) 24) (blk_alloc (o' := .cells #[.int .u64 lo, .int .u64 hi] 26) (heap_new w (.cells (K .u64 hs) 23)))))
  have n1 := (blk_alloc (o' := .cells (K .u64 (List.replicate 16 0)) 24) (blk_alloc (o' := .cells (K .u64 (List.replicate 16 0)) 24) (heap_new (w.alloc (.cells (K .u64 hs) 23)) (.cells #[.int .u64 lo, .int .u64 hi] 26))))
  rw [show (w.alloc (.cells (K .u64 hs) 23)).heap.size = w.heap.size + 1 by simp] at n1
  have n2 := (blk_alloc (o' := .cells (K .u64 (List.replicate 16 0)) 24) (heap_new ((w.alloc (.cells (K .u64 hs) 23)).alloc (.cells #[.int .u64 lo, .int .u64 hi] 26)) (.cells (K .u64 (List.replicate 16 0)) 24)))
  rw [show ((w.alloc (.cells (K .u64 hs) 23)).alloc (.cells #[.int .u64 lo, .int .u64 hi] 26)).heap.size = w.heap.size + 1 + 1 by simp] at n2
  have n3 := (heap_new (((w.alloc (.cells (K .u64 hs) 23)).alloc (.cells #[.int .u64 lo, .int .u64 hi] 26)).alloc (.cells (K .u64 (List.replicate 16 0)) 24)) (.cells (K .u64 (List.replicate 16 0)) 24))
  rw [show (((w.alloc (.cells (K .u64 hs) 23)).alloc (.cells #[.int .u64 lo, .int .u64 hi] 26)).alloc (.cells (K .u64 (List.replicate 16 0)) 24)).heap.size = w.heap.size + 1 + 1 + 1 by simp] at n3
  have HL := TW.hide hl
  clear hl
  go_enter Tryd.func6, Tryd.ntmps6
  refine wp_seq_k fun K hK => ?_
  have HK := TW.hide hK
  clear hK
  go_wp2
  refine HK.out _ _ ?_
  clear HK K
  refine wp_seq_k fun K hK => ?_
  have HK := TW.hide hK
  clear hK
  go_wp2
  refine HK.out _ _ ?_
  clear HK K
  change Code.wp _ _ _ _ ((((w.alloc (.cells (K .u64 hs) 23)).alloc (.cells #[.int .u64 lo, .int .u64 hi] 26)).alloc (.cells (K .u64 (List.replicate 16 0)) 24)).alloc (.cells (K .u64 (List.replicate 16 0)) 24))
  generalize hWW : (((w.alloc (.cells (K .u64 hs) 23)).alloc (.cells #[.int .u64 lo, .int .u64 hi] 26)).alloc (.cells (K .u64 (List.replicate 16 0)) 24)).alloc (.cells (K .u64 (List.replicate 16 0)) 24) = W at hb n0 n1 n2 n3 ⊢
  have hW : W.heap.size = w.heap.size + 1 + 1 + 1 + 1 := by rw [← hWW]; simp
  clear hWW
  have h0 : 0 < w.heap.size := LW.lt_of_cell (ti.cell 0 (by decide))
  generalize hB : w.heap.size = B at *
  have HTI := TW.hide ti
  have HBB := TW.hide hB
  clear hB ti
  have N0 := TW.hide n0
  have N1 := TW.hide n1
  have N2 := TW.hide n2
  have N3 := TW.hide n3
  have NB := TW.hide hb
  clear n0 n1 n2 n3 hb
  clear hW
  go_wp2
  go_loopw [11] (fun i wr => ∃ k : Nat, k ≤ 8 ∧ i = .int .i64 k ∧ wr.heap[B]? = some (.cells (K .u64 hs) 23 (0, 0)) ∧ wr.heap[B + 1]? = some (.cells #[.int .u64 lo, .int .u64 hi] 26 (0, 0)) ∧ wr.heap[B + 1 + 1]? = some (.cells (K .u64 (List.replicate 16 0)) 24 (0, 0)) ∧ wr.heap[B + 1 + 1 + 1]? = some (.cells (K .u64 (upto hs 8 k ++ upto ivL 8 k)) 24 (0, 0)) ∧ Below B w wr) (fun i _ => 8 - (intOf i).toNat)
  case atStart => exact ⟨0, Nat.zero_le _, rfl, N0.out, N1.out, N2.out, by simpa [upto] using N3.out, NB.out⟩
  case round =>
    rename_i Q1 K1 a1
    obtain ⟨k, hk, rfl, n0, n1, n2, n3, hb⟩ := hrel
    clear N0 N1 N2 N3 NB W
    have G0 := TW.hide n0
    have G1 := TW.hide n1
    have G2 := TW.hide n2
    have G3 := TW.hide n3
    have GB := TW.hide hb
    by_cases hlt : k < 8
    · have hkk := hlt
      have hul := upto_length hs 8 k HL.out hk
      have hu2 := upto_length ivL 8 k ivL_length hk
      have hsz : upto hs 8 (k + 1) ++ upto ivL 8 (k + 1) = ((upto hs 8 k ++ upto ivL 8 k).set k (hs.getD k 0)).set (k + 8) (ivL.getD k 0) := by
        rw [join_set _ _ k _ _ hul hlt, upto_set hs 8 k HL.out hlt, upto_set ivL 8 k ivL_length hlt]
      have hc0 := blk_cellK n0 (i := k) (by rw [HL.out]; exact hlt)
      have ht0 := (HTI.out.below (w' := wr) (HBB.out ▸ hb)).cell k (by rw [ivL_length]; exact hlt)
      have hlen : (upto hs 8 k ++ upto ivL 8 k).length = 16 := by rw [List.length_append, hul, hu2]
      generalize hs.getD k 0 = x at *
      generalize ivL.getD k 0 = y at *
      generalize hus : upto hs 8 k ++ upto ivL 8 k = us at *
      clear hus
      have HS := TW.hide hsz
      have HLEN := TW.hide hlen
      clear n0 n1 n2 n3 hb hsz hlen hul hu2
      have k0 : (0 : Int) ≤ (k : Int) := by omega
      have k1 : (k : Int) < 8 := by omega
      have k2 : (k : Int) < 16 := by omega
      have k3 : (k : Int) + 8 < 16 := by omega
      have k4 : (0 : Int) ≤ (k : Int) + 8 := by omega
      go_wp2
      have HTT : Hid (∀ Z : World, Z.heap = wr.heap → Z.cell? ⟨B, k, none⟩ = some (.int .u64 x) ∧ Z.cell? ⟨0, k, none⟩ = some (.int .u64 y)) := fun Z hZ => by
        simp only [World.cell?, hZ] at hc0 ht0 ⊢
        exact ⟨hc0, ht0⟩
      clear hc0 ht0
      have hnk : IntKind.i64.wrap ((k : Int) + 8) = (k : Int) + 8 := by rw [IntKind.wrap_i64]; omega
      have hnt : ((k : Int) + 8).toNat = k + 8 := by omega
      refine wp_region_noPanic ?_
      refine RG.wp_region_L (fun Z => True) (fun Z => Z.cell? ⟨B, k, none⟩ = some (.int .u64 x) ∧ Z.cell? ⟨0, k, none⟩ = some (.int .u64 y)) [] (by kernel_rfl) ?_
      refine RG.wpL_take (fuel := 4) (a' := ?A) [0, 1, 2, 3, 4, 5, 6, 7, 8] (by kernel_rfl) (by kernel_rfl) (fun _ _ _ _ _ h => h) (HTT.out _ rfl) (fun _ => trivial) ?r ?_
      case r =>
        iterate 9
          refine RG.RunsIf.weak (v := ?_) (by rfl) (by rfl) (fun Z hT => ?_) ?_
          rotate_left
          · go_simp
            rfl
          simp only [Act.put, List.setIfInBounds_toArray, List.set_cons_zero, List.set_cons_succ, List.getElem_toArray, List.getElem_cons_zero, List.getElem_cons_succ]
        exact RG.RunsIf.nil
      have TB : Hid (∀ Z : World, (∀ b, b ≠ B + 1 + 1 + 1 → Z.heap[b]? = wr.heap[b]?) → Z.cell? ⟨B, k, none⟩ = some (.int .u64 x) ∧ Z.cell? ⟨0, k, none⟩ = some (.int .u64 y)) := fun Z hZ => by
        have h := HTT.out wr rfl
        simp only [World.cell?, hZ B (by omega), hZ 0 (by omega)] at h ⊢
        exact h
      have M00 : Hid (wr.drew.heap[B]? = some (.cells (K .u64 hs) 23 (0, 0))) := G0.out
      have M10 : Hid (wr.drew.heap[B + 1]? = some (.cells #[.int .u64 lo, .int .u64 hi] 26 (0, 0))) := G1.out
      have M20 : Hid (wr.drew.heap[B + 1 + 1]? = some (.cells (K .u64 (List.replicate 16 0)) 24 (0, 0))) := G2.out
      have M30 : Hid (wr.drew.heap[B + 1 + 1 + 1]? = some (.cells (K .u64 us) 24 (0, 0))) := G3.out
      have MB0 : Hid (Below B w wr.drew) := below_drewN GB.out 1
      have TT0 : Hid (wr.drew.cell? ⟨B, k, none⟩ = some (.int .u64 x) ∧ wr.drew.cell? ⟨0, k, none⟩ = some (.int .u64 y)) := HTT.out _ rfl
      clear G0 G1 G2 G3 GB HTT TB
      generalize wr.drew = Y0 at *
      refine RG.wpL_step (i := 9) (by kernel_rfl) (by rfl) (by rfl) (fun K hK => ?_)
      have HK := TW.hide hK
      clear hK
      go_simp
      refine HK.out _ _ TT0.out (fun _ => trivial) ?_
      clear HK K
      have c := blk_cellK M30.out (i := k) (by (try simp only [List.length_set]); rw [HLEN.out]; omega)
      have f := blk_frozen M30.out (i := k)
      refine RG.wpL_step (i := 10) (by kernel_rfl) (by rfl) (by rfl) (fun K hK => ?_)
      have HK := TW.hide hK
      clear hK
      go_simp
      have M31 := TW.hide (blk_setK (i := k) (x := x) M30.out)
      have TT1 := TW.hide (And.intro ((cell_other (p := B + 1 + 1 + 1) (o := k) (u := .int .u64 x) (by omega)).trans TT0.out.1) ((cell_other (p := B + 1 + 1 + 1) (o := k) (u := .int .u64 x) (by omega)).trans TT0.out.2))
      have MB1 := TW.hide (MB0.out.setCell (p := ⟨B + 1 + 1 + 1, k, none⟩) (by simp; omega) (.int .u64 x))
      have M01 := TW.hide (blk_other (p := B + 1 + 1 + 1) (o := k) (u := .int .u64 x) M00.out (by omega))
      have M11 := TW.hide (blk_other (p := B + 1 + 1 + 1) (o := k) (u := .int .u64 x) M10.out (by omega))
      have M21 := TW.hide (blk_other (p := B + 1 + 1 + 1) (o := k) (u := .int .u64 x) M20.out (by omega))
      refine HK.out _ _ TT1.out (fun _ => trivial) ?_
      clear HK K c f M30 TT0 MB0 M00 M10 M20
      generalize Y0.setCell ⟨B + 1 + 1 + 1, k, none⟩ (.int .u64 x) = Y1 at *
      refine RG.wpL_step (i := 11) (by kernel_rfl) (by rfl) (by rfl) (fun K hK => ?_)
      have HK := TW.hide hK
      clear hK
      go_simp
      refine HK.out _ _ TT1.out (fun _ => trivial) ?_
      clear HK K
      have c := blk_cellK M31.out (i := (k + 8)) (by (try simp only [List.length_set]); rw [HLEN.out]; omega)
      have f := blk_frozen M31.out (i := (k + 8))
      refine RG.wpL_step (i := 12) (by kernel_rfl) (by rfl) (by rfl) (fun K hK => ?_)
      have HK := TW.hide hK
      clear hK
      go_simp
      have M32 := TW.hide (blk_setK (i := (k + 8)) (x := y) M31.out)
      have TT2 := TW.hide (And.intro ((cell_other (p := B + 1 + 1 + 1) (o := (k + 8)) (u := .int .u64 y) (by omega)).trans TT1.out.1) ((cell_other (p := B + 1 + 1 + 1) (o := (k + 8)) (u := .int .u64 y) (by omega)).trans TT1.out.2))
      have MB2 := TW.hide (MB1.out.setCell (p := ⟨B + 1 + 1 + 1, (k + 8), none⟩) (by simp; omega) (.int .u64 y))
      have M02 := TW.hide (blk_other (p := B + 1 + 1 + 1) (o := (k + 8)) (u := .int .u64 y) M01.out (by omega))
      have M12 := TW.hide (blk_other (p := B + 1 + 1 + 1) (o := (k + 8)) (u := .int .u64 y) M11.out (by omega))
      have M22 := TW.hide (blk_other (p := B + 1 + 1 + 1) (o := (k + 8)) (u := .int .u64 y) M21.out (by omega))
      refine HK.out _ _ TT2.out (fun _ => trivial) ?_
      clear HK K c f M31 TT1 MB1 M01 M11 M21
      generalize Y1.setCell ⟨B + 1 + 1 + 1, (k + 8), none⟩ (.int .u64 y) = Y2 at *
      refine RG.wpL_done (by kernel_rfl) ?_ _
      refine NoPanic.normal ?_
      go_wp2
      go_roundw
      case rel =>
        refine ⟨k + 1, by omega, by go_num, M02.out, M12.out, M22.out, ?_, MB2.out⟩
        rw [HS.out]
        exact M32.out
      case measure => simp [intOf]; omega
    · obtain rfl : k = 8 := by omega
      have HA := TW.hide a1
      clear a1 G0 G1 G2 G3 GB
      rw [upto_full _ _ HL.out, upto_full _ _ ivL_length] at n3
      have H1 := TW.hide n1
      have H2 := TW.hide n2
      have H3 := TW.hide n3
      have HB := TW.hide hb
      clear n0 n1 n2 n3 hb
      go_wp2
      refine HA.out _ _ ?_
      clear HA
      have sg : IntKind.u64.signed = false := rfl
      have mx : IntKind.u64.max = 18446744073709551615 := rfl
      have hlen : (hs ++ ivL).length = 16 := by rw [List.length_append, HL.out]; rfl
      have HLE := TW.hide hlen
      clear hlen
      have c := blk_cellK H3.out (i := 12) (by have := HLE.out; omega)
      rw [init0_get hs 4 HL.out] at c
      have f := blk_frozen H3.out (i := 12)
      have d : wr.cell? ⟨B + 1, 0, none⟩ = some (.int .u64 lo) := blk_cell H1.out (i := 0) rfl
      obtain ⟨q4, e⟩ : ∃ q, xo (ivL.getD 4 0) lo = q := ⟨_, rfl⟩
      have E0 := TW.hide e
      generalize ivL.getD 4 0 = y4 at c e
      (try unfold co at e)
      unfold xo at e
      refine wp_seq_k fun KK hK => ?_
      have HK := TW.hide hK
      clear hK
      go_wp2
      refine HK.out _ _ ?_
      clear HK KK
      clear c f e d
      have m3 := blk_setK (i := 12) (x := q4) H3.out
      have m1 := blk_other (p := B + 1 + 1 + 1) (o := 12) (u := .int .u64 q4) H1.out (by omega)
      have m2 := blk_other (p := B + 1 + 1 + 1) (o := 12) (u := .int .u64 q4) H2.out (by omega)
      have mb := HB.out.setCell (p := ⟨B + 1 + 1 + 1, 12, none⟩) (by simp; omega) (.int .u64 q4)
      clear H1 H2 H3 HB
      generalize wr.setCell ⟨B + 1 + 1 + 1, 12, none⟩ (.int .u64 q4) = w1 at *
      have H1 := TW.hide m1
      have H2 := TW.hide m2
      have H3 := TW.hide m3
      have HB := TW.hide mb
      clear m1 m2 m3 mb
      rw [← E0.out] at H3
      clear E0
      have c := blk_cellK H3.out (i := 13) (by rw [List.length_set]; have := HLE.out; omega)
      rw [init1_get hs _ HL.out] at c
      have f := blk_frozen H3.out (i := 13)
      have d : w1.cell? ⟨B + 1, 1, none⟩ = some (.int .u64 hi) := blk_cell H1.out (i := 1) rfl
      obtain ⟨q5, e⟩ : ∃ q, xo (ivL.getD 5 0) hi = q := ⟨_, rfl⟩
      have E0 := TW.hide e
      generalize ivL.getD 5 0 = y5 at c e
      (try unfold co at e)
      unfold xo at e
      refine wp_seq_k fun KK hK => ?_
      have HK := TW.hide hK
      clear hK
      go_wp2
      refine HK.out _ _ ?_
      clear HK KK
      clear c f e d
      have m3 := blk_setK (i := 13) (x := q5) H3.out
      have m1 := blk_other (p := B + 1 + 1 + 1) (o := 13) (u := .int .u64 q5) H1.out (by omega)
      have m2 := blk_other (p := B + 1 + 1 + 1) (o := 13) (u := .int .u64 q5) H2.out (by omega)
      have mb := HB.out.setCell (p := ⟨B + 1 + 1 + 1, 13, none⟩) (by simp; omega) (.int .u64 q5)
      clear H1 H2 H3 HB
      generalize w1.setCell ⟨B + 1 + 1 + 1, 13, none⟩ (.int .u64 q5) = w2 at *
      have H1 := TW.hide m1
      have H2 := TW.hide m2
      have H3 := TW.hide m3
      have HB := TW.hide mb
      clear m1 m2 m3 mb
      rw [← E0.out] at H3
      clear E0
      change Hid (w2.heap[B + 1 + 1 + 1]? = some (.cells (K .u64 (init2 hs lo hi)) 24 (0, 0))) at H3
      cases la
      · refine wp_seq_k fun KK hK => ?_
        have HK := TW.hide hK
        clear hK
        go_wp2
        refine HK.out _ _ ?_
        clear HK KK
        change Hid (w2.heap[B + 1 + 1 + 1]? = some (.cells (K .u64 (init3 hs lo hi false)) 24 (0, 0))) at H3
        cases no
        · refine wp_seq_k fun KK hK => ?_
          have HK := TW.hide hK
          clear hK
          go_wp2
          refine HK.out _ _ ?_
          clear HK KK
          change Hid (w2.heap[B + 1 + 1 + 1]? = some (.cells (K .u64 (initL hs lo hi false false)) 24 (0, 0))) at H3
          have hI := TW.hide (info31 (initL hs lo hi false false) (initL_length hs lo hi false false HL.out))
          have hO := TW.hide (size16 (List.replicate 16 0) (initL hs lo hi false false) rfl (initL_length hs lo hi false false HL.out))
          go_wp2_with (first | (refine wpList_load_row (by rfl) 24 _ (by rfl) (B + 1 + 1 + 1) (by rfl) 24 (K .u64 (initL hs lo hi false false)) (0, 0) _ H3.out Tryd.underlying24 rfl hI.out ?_) | (refine wpList_store_row (by rfl) 24 _ _ (by rfl) (B + 1 + 1) (K .u64 (initL hs lo hi false false)) (by rfl) (by rfl) 24 _ H2.out hI.out hO.out (K_one _ _) ?_))
          refine bodyPost_ret (v := .agg (K .u64 (initL hs lo hi false false))) (results_cell_row (P := Tryd.prog) Tryd.results6 _ _ (B + 1 + 1) 24 (K .u64 (initL hs lo hi false false)) (0, 0) _ (by rfl) (setRow_heap _ _ _ _ _ _ H2.out) Tryd.underlying24 rfl hI.out) rfl ?_
          exact ⟨rfl, below_setRow HB.out (by omega)⟩
        · have c := blk_cellK H3.out (i := 15) (by rw [init3_length hs lo hi false HL.out]; omega)
          rw [init3_get hs lo hi false HL.out] at c
          have f := blk_frozen H3.out (i := 15)
          obtain ⟨q7, e⟩ : ∃ q, co (ivL.getD 7 0) = q := ⟨_, rfl⟩
          have E0 := TW.hide e
          generalize ivL.getD 7 0 = y7 at c e
          (try unfold co at e)
          unfold xo at e
          refine wp_seq_k fun KK hK => ?_
          have HK := TW.hide hK
          clear hK
          go_wp2
          refine HK.out _ _ ?_
          clear HK KK
          clear c f e 
          have m3 := blk_setK (i := 15) (x := q7) H3.out
          have m1 := blk_other (p := B + 1 + 1 + 1) (o := 15) (u := .int .u64 q7) H1.out (by omega)
          have m2 := blk_other (p := B + 1 + 1 + 1) (o := 15) (u := .int .u64 q7) H2.out (by omega)
          have mb := HB.out.setCell (p := ⟨B + 1 + 1 + 1, 15, none⟩) (by simp; omega) (.int .u64 q7)
          clear H1 H2 H3 HB
          generalize w2.setCell ⟨B + 1 + 1 + 1, 15, none⟩ (.int .u64 q7) = w5 at *
          have H1 := TW.hide m1
          have H2 := TW.hide m2
          have H3 := TW.hide m3
          have HB := TW.hide mb
          clear m1 m2 m3 mb
          rw [← E0.out] at H3
          clear E0
          change Hid (w5.heap[B + 1 + 1 + 1]? = some (.cells (K .u64 (initL hs lo hi false true)) 24 (0, 0))) at H3
          have hI := TW.hide (info31 (initL hs lo hi false true) (initL_length hs lo hi false true HL.out))
          have hO := TW.hide (size16 (List.replicate 16 0) (initL hs lo hi false true) rfl (initL_length hs lo hi false true HL.out))
          go_wp2_with (first | (refine wpList_load_row (by rfl) 24 _ (by rfl) (B + 1 + 1 + 1) (by rfl) 24 (K .u64 (initL hs lo hi false true)) (0, 0) _ H3.out Tryd.underlying24 rfl hI.out ?_) | (refine wpList_store_row (by rfl) 24 _ _ (by rfl) (B + 1 + 1) (K .u64 (initL hs lo hi false true)) (by rfl) (by rfl) 24 _ H2.out hI.out hO.out (K_one _ _) ?_))
          refine bodyPost_ret (v := .agg (K .u64 (initL hs lo hi false true))) (results_cell_row (P := Tryd.prog) Tryd.results6 _ _ (B + 1 + 1) 24 (K .u64 (initL hs lo hi false true)) (0, 0) _ (by rfl) (setRow_heap _ _ _ _ _ _ H2.out) Tryd.underlying24 rfl hI.out) rfl ?_
          exact ⟨rfl, below_setRow HB.out (by omega)⟩
      · have c := blk_cellK H3.out (i := 14) (by rw [init2_length hs lo hi HL.out]; omega)
        rw [init2_get hs lo hi HL.out] at c
        have f := blk_frozen H3.out (i := 14)
        obtain ⟨q6, e⟩ : ∃ q, co (ivL.getD 6 0) = q := ⟨_, rfl⟩
        have E0 := TW.hide e
        generalize ivL.getD 6 0 = y6 at c e
        (try unfold co at e)
        unfold xo at e
        refine wp_seq_k fun KK hK => ?_
        have HK := TW.hide hK
        clear hK
        go_wp2
        refine HK.out _ _ ?_
        clear HK KK
        clear c f e 
        have m3 := blk_setK (i := 14) (x := q6) H3.out
        have m1 := blk_other (p := B + 1 + 1 + 1) (o := 14) (u := .int .u64 q6) H1.out (by omega)
        have m2 := blk_other (p := B + 1 + 1 + 1) (o := 14) (u := .int .u64 q6) H2.out (by omega)
        have mb := HB.out.setCell (p := ⟨B + 1 + 1 + 1, 14, none⟩) (by simp; omega) (.int .u64 q6)
        clear H1 H2 H3 HB
        generalize w2.setCell ⟨B + 1 + 1 + 1, 14, none⟩ (.int .u64 q6) = w3 at *
        have H1 := TW.hide m1
        have H2 := TW.hide m2
        have H3 := TW.hide m3
        have HB := TW.hide mb
        clear m1 m2 m3 mb
        rw [← E0.out] at H3
        clear E0
        change Hid (w3.heap[B + 1 + 1 + 1]? = some (.cells (K .u64 (init3 hs lo hi true)) 24 (0, 0))) at H3
        cases no
        · refine wp_seq_k fun KK hK => ?_
          have HK := TW.hide hK
          clear hK
          go_wp2
          refine HK.out _ _ ?_
          clear HK KK
          change Hid (w3.heap[B + 1 + 1 + 1]? = some (.cells (K .u64 (initL hs lo hi true false)) 24 (0, 0))) at H3
          have hI := TW.hide (info31 (initL hs lo hi true false) (initL_length hs lo hi true false HL.out))
          have hO := TW.hide (size16 (List.replicate 16 0) (initL hs lo hi true false) rfl (initL_length hs lo hi true false HL.out))
          go_wp2_with (first | (refine wpList_load_row (by rfl) 24 _ (by rfl) (B + 1 + 1 + 1) (by rfl) 24 (K .u64 (initL hs lo hi true false)) (0, 0) _ H3.out Tryd.underlying24 rfl hI.out ?_) | (refine wpList_store_row (by rfl) 24 _ _ (by rfl) (B + 1 + 1) (K .u64 (initL hs lo hi true false)) (by rfl) (by rfl) 24 _ H2.out hI.out hO.out (K_one _ _) ?_))
          refine bodyPost_ret (v := .agg (K .u64 (initL hs lo hi true false))) (results_cell_row (P := Tryd.prog) Tryd.results6 _ _ (B + 1 + 1) 24 (K .u64 (initL hs lo hi true false)) (0, 0) _ (by rfl) (setRow_heap _ _ _ _ _ _ H2.out) Tryd.underlying24 rfl hI.out) rfl ?_
          exact ⟨rfl, below_setRow HB.out (by omega)⟩
        · have c := blk_cellK H3.out (i := 15) (by rw [init3_length hs lo hi true HL.out]; omega)
          rw [init3_get hs lo hi true HL.out] at c
          have f := blk_frozen H3.out (i := 15)
          obtain ⟨q7, e⟩ : ∃ q, co (ivL.getD 7 0) = q := ⟨_, rfl⟩
          have E0 := TW.hide e
          generalize ivL.getD 7 0 = y7 at c e
          (try unfold co at e)
          unfold xo at e
          refine wp_seq_k fun KK hK => ?_
          have HK := TW.hide hK
          clear hK
          go_wp2
          refine HK.out _ _ ?_
          clear HK KK
          clear c f e 
          have m3 := blk_setK (i := 15) (x := q7) H3.out
          have m1 := blk_other (p := B + 1 + 1 + 1) (o := 15) (u := .int .u64 q7) H1.out (by omega)
          have m2 := blk_other (p := B + 1 + 1 + 1) (o := 15) (u := .int .u64 q7) H2.out (by omega)
          have mb := HB.out.setCell (p := ⟨B + 1 + 1 + 1, 15, none⟩) (by simp; omega) (.int .u64 q7)
          clear H1 H2 H3 HB
          generalize w3.setCell ⟨B + 1 + 1 + 1, 15, none⟩ (.int .u64 q7) = w5 at *
          have H1 := TW.hide m1
          have H2 := TW.hide m2
          have H3 := TW.hide m3
          have HB := TW.hide mb
          clear m1 m2 m3 mb
          rw [← E0.out] at H3
          clear E0
          change Hid (w5.heap[B + 1 + 1 + 1]? = some (.cells (K .u64 (initL hs lo hi true true)) 24 (0, 0))) at H3
          have hI := TW.hide (info31 (initL hs lo hi true true) (initL_length hs lo hi true true HL.out))
          have hO := TW.hide (size16 (List.replicate 16 0) (initL hs lo hi true true) rfl (initL_length hs lo hi true true HL.out))
          go_wp2_with (first | (refine wpList_load_row (by rfl) 24 _ (by rfl) (B + 1 + 1 + 1) (by rfl) 24 (K .u64 (initL hs lo hi true true)) (0, 0) _ H3.out Tryd.underlying24 rfl hI.out ?_) | (refine wpList_store_row (by rfl) 24 _ _ (by rfl) (B + 1 + 1) (K .u64 (initL hs lo hi true true)) (by rfl) (by rfl) 24 _ H2.out hI.out hO.out (K_one _ _) ?_))
          refine bodyPost_ret (v := .agg (K .u64 (initL hs lo hi true true))) (results_cell_row (P := Tryd.prog) Tryd.results6 _ _ (B + 1 + 1) 24 (K .u64 (initL hs lo hi true true)) (0, 0) _ (by rfl) (setRow_heap _ _ _ _ _ _ H2.out) Tryd.underlying24 rfl hI.out) rfl ?_
          exact ⟨rfl, below_setRow HB.out (by omega)⟩
end MX
end Go.Proofs.YtkilackhomhpgabDoor
