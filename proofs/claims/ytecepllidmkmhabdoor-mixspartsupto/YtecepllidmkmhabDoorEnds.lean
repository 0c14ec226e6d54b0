/-
  What the calls End (the program's and the document's) give, for all chains and states.
-/
import Derived.Test.YtecepllidmkmhabDoorBegins
namespace Go.Proofs.YtecepllidmkmhabDoor
open Go.RowKit
set_option linter.unusedVariables false
set_option linter.unusedSimpArgs false
namespace MX
open Turn
attribute [local go_sem ↓] Go.wp_at_zero Go.wp_at_succ
/-- The first 'k' of one list, the others of another. -/
def part2 (l m : List Int) (k : Nat) : List Int := l.take k ++ m.drop k
theorem part2_zero (l m : List Int) : part2 l m 0 = m := by simp [part2]
theorem part2_length (l m : List Int) (n k : Nat) (h : l.length = n) (h' : m.length = n) (hk : k ≤ n) : (part2 l m k).length = n := by simp [part2]; omega
theorem part2_get (l m : List Int) (n k : Nat) (h : l.length = n) (h' : m.length = n) (hk : k < n) : (part2 l m k).getD k 0 = m.getD k 0 := by
  unfold part2
  rw [List.getD_eq_getElem?_getD, List.getElem?_append_right (by simp; omega), List.length_take, show k - min k l.length = 0 by omega, List.getElem?_drop, Nat.add_zero, List.getD_eq_getElem?_getD]
theorem part2_set (l m : List Int) (n k : Nat) (h : l.length = n) (h' : m.length = n) (hk : k < n) : (part2 l m k).set k (l.getD k 0) = part2 l m (k + 1) := by
  unfold part2
  rw [List.set_append_right _ _ (by simp; omega), LW.take_snoc l k (by omega), List.length_take, show k - min k l.length = 0 by omega, List.drop_eq_getElem_cons (by omega : k < m.length), List.set_cons_zero, List.append_assoc]
  rfl
theorem part2_full (l m : List Int) (n : Nat) (h : l.length = n) (h' : m.length = n) : part2 l m n = l := by simp [part2, ← h]; omega
/-- So many rounds. -/
def roundsL (vs ms : List Int) : Nat → List Int
  | 0 => vs
  | n + 1 => forthL (roundsL vs ms n) ms n
theorem roundsL_length (vs ms : List Int) (n : Nat) : (roundsL vs ms n).length = vs.length := by
  induction n with
  | zero => rfl
  | succ n ih => rw [roundsL, forthL_length, ih]
theorem roundsL_Ws {vs : List Int} (ms : List Int) (n : Nat) (h : Ws vs) : Ws (roundsL vs ms n) := by
  induction n with
  | zero => exact h
  | succ n ih => exact forthL_Ws _ _ ih
/-- Both halves laid over the state. -/
def overL (hs v : List Int) : List Int := (List.range 8).map fun i => xo (hs.getD i 0) (xo (v.getD i 0) (v.getD (i + 8) 0))
theorem overL_length (hs v : List Int) : (overL hs v).length = 8 := by simp [overL]
theorem overL_get (hs v : List Int) (i : Nat) (h : i < 8) : (overL hs v).getD i 0 = xo (hs.getD i 0) (xo (v.getD i 0) (v.getD (i + 8) 0)) := by
  simp [overL, List.getD_eq_getElem?_getD, h]
theorem xo_assoc (a b c : Int) (ha : W a) (hb : W b) (hc : W c) : xo (xo a b) c = xo a (xo b c) := by
  have h1 := xo_bd a b ha hb
  have h2 := xo_bd b c hb hc
  unfold xo at *
  rw [u32_xor _ c h1.1 h1.2 hc.1 hc.2, u32_xor a _ ha.1 ha.2 h2.1 h2.2, u32_xor a b ha.1 ha.2 hb.1 hb.2, u32_xor b c hb.1 hb.2 hc.1 hc.2]
  simp [Nat.xor_assoc]
theorem overL_Ws {hs v : List Int} (h : Ws hs) (hv : Ws v) : Ws (overL hs v) := fun x hx => by
  simp only [overL, List.mem_map] at hx
  obtain ⟨i, _, rfl⟩ := hx
  exact xo_bd _ _ (h.get _) (xo_bd _ _ (hv.get _) (hv.get _))
/-- A block goes in. -/
def fL (hs ms : List Int) (n : Int) (la no : Bool) : List Int := overL hs (roundsL (beginL hs n la no) ms 10)
theorem fL_length (hs ms : List Int) (n : Int) (la no : Bool) : (fL hs ms n la no).length = 8 := overL_length _ _
theorem fL_Ws {hs : List Int} (ms : List Int) {n : Int} (la no : Bool) (h : Ws hs) (wn : 0 ≤ n) (wn' : n < 18446744073709551616) : Ws (fL hs ms n la no) := overL_Ws h (roundsL_Ws _ _ (beginL_Ws la no h wn wn'))
set_option maxRecDepth 100000 in
set_option maxHeartbeats 4000000 in
theorem end_ (hs V : List Int) (w : World) (hl : hs.length = 8) (hv : V.length = 16) (hw : Ws hs) (hV : Ws V) :
    Calls Tryd.prog 21 #[.agg (K .u32 hs), .agg (K .u32 V)] w fun e w' => e = .returned (.agg (K .u32 (overL hs V))) ∧ Below w.heap.size w w' := by
  have hb := ((((Below.refl w.heap.size w).alloc (Nat.le_refl _) (.cells (K .u32 hs) 23)).alloc (by simp; try omega) (.cells (K .u32 V) 34)).alloc (by simp; try omega) (.cells (K .u32 (List.replicate 8 0)) 23))
  have n0 := (blk_alloc (o' := .cells (K .u32 (List.replicate 8 0)) 23) (blk_alloc (o' := .cells (K .u32 V) 34) (heap_new w (.cells (K .u32 hs) 23))))
  have n1 := (blk_alloc (o' := .cells (K .u32 (List.replicate 8 0)) 23) (heap_new (w.alloc (.cells (K .u32 hs) 23)) (.cells (K .u32 V) 34)))
  rw [show (w.alloc (.cells (K .u32 hs) 23)).heap.size = w.heap.size + 1 by simp] at n1
  have n2 := (heap_new ((w.alloc (.cells (K .u32 hs) 23)).alloc (.cells (K .u32 V) 34)) (.cells (K .u32 (List.replicate 8 0)) 23))
  rw [show ((w.alloc (.cells (K .u32 hs) 23)).alloc (.cells (K .u32 V) 34)).heap.size = w.heap.size + 1 + 1 by simp] at n2
  have HL := TW.hide hl
  have HLU := TW.hide hv
  have HW := TW.hide hw
  have HUW := TW.hide hV
  clear hl hv hw hV
  go_enter Tryd.func21, Tryd.ntmps21
  refine wp_seq_k fun K hK => ?_
  have HK := TW.hide hK
  clear hK
  go_wp2
  refine HK.out _ _ ?_
  clear HK K
  change Code.wp _ _ _ _ (((w.alloc (.cells (K .u32 hs) 23)).alloc (.cells (K .u32 V) 34)).alloc (.cells (K .u32 (List.replicate 8 0)) 23))
  generalize hWW : ((w.alloc (.cells (K .u32 hs) 23)).alloc (.cells (K .u32 V) 34)).alloc (.cells (K .u32 (List.replicate 8 0)) 23) = W at hb n0 n1 n2 ⊢
  have hW : W.heap.size = w.heap.size + 1 + 1 + 1 := by rw [← hWW]; simp
  clear hWW
  generalize hB : w.heap.size = B at *
  have G0 := TW.hide n0
  have GV := TW.hide n1
  have GZ := TW.hide n2
  have GB := TW.hide hb
  clear n0 n1 n2 hb
  clear hW hB
  go_wp2
  have HOL := TW.hide (overL_length hs V)
  go_loopw [6] (fun i wr => ∃ k : Nat, k ≤ 8 ∧ i = .int .i64 k ∧ wr.heap[B]? = some (.cells (K .u32 (part2 (overL hs V) hs k)) 23 (0, 0)) ∧ wr.heap[B + 1 + 1]? = some (.cells (K .u32 (List.replicate 8 0)) 23 (0, 0)) ∧ wr.heap[B + 1]? = some (.cells (K .u32 V) 34 (0, 0)) ∧ Below B w wr) (fun i _ => 8 - (intOf i).toNat)
  case atStart => exact ⟨0, Nat.zero_le _, rfl, by rw [part2_zero]; exact G0.out, GZ.out, GV.out, GB.out⟩
  case round =>
    obtain ⟨k, hk, rfl, n0, nz, nv, hb⟩ := hrel
    clear G0 GZ GV GB
    by_cases hlt : k < 8
    · have hc0 := blk_cellK n0 (i := k) (by rw [part2_length _ _ 8 _ HOL.out HL.out hk]; exact hlt)
      rw [part2_get _ _ 8 _ HOL.out HL.out hlt] at hc0
      have hc1 := blk_cellK nv (i := k) (by rw [HLU.out]; omega)
      have hc2 := blk_cellK nv (i := k + 8) (by rw [HLU.out]; omega)
      have hln := part2_length (overL hs V) hs 8 k HOL.out HL.out hk
      have hsz := part2_set (overL hs V) hs 8 k HOL.out HL.out hlt
      rw [overL_get hs V k hlt] at hsz
      have hwx := HW.out.get k
      have hwy := HUW.out.get k
      have hwz := HUW.out.get (k + 8)
      generalize hs.getD k 0 = x at *
      generalize V.getD k 0 = y at *
      generalize V.getD (k + 8) 0 = z at *
      obtain ⟨q1, e1⟩ : ∃ q, xo y z = q := ⟨_, rfl⟩
      rw [e1] at hsz
      obtain ⟨q, e2⟩ : ∃ q, xo x q1 = q := ⟨_, rfl⟩
      rw [e2] at hsz
      unfold xo at e1 e2
      have HS := TW.hide hsz
      have HLN := TW.hide hln
      have k0 : (0 : Int) ≤ (k : Int) := by omega
      have k1 : (k : Int) < 8 := by omega
      have k2 : (k : Int) < 16 := by omega
      have k3 : (k : Int) + 8 < 16 := by omega
      have k4 : (0 : Int) ≤ (k : Int) + 8 := by omega
      have hnk : IntKind.i64.wrap ((k : Int) + 8) = (k : Int) + 8 := by rw [IntKind.wrap_i64]; omega
      have hnt : ((k : Int) + 8).toNat = k + 8 := by omega
      have HTT : Hid (∀ Z : World, Z.heap[B + 1]? = wr.heap[B + 1]? → Z.cell? ⟨B + 1, k, none⟩ = some (.int .u32 y) ∧ Z.cell? ⟨B + 1, k + 8, none⟩ = some (.int .u32 z)) := fun Z hZ => by
        simp only [World.cell?, hZ] at hc1 hc2 ⊢
        exact ⟨hc1, hc2⟩
      have HSS : Hid (∀ Z : World, Z.heap = wr.heap → Z.cell? ⟨B, k, none⟩ = some (.int .u32 x)) := fun Z hZ => by
        simp only [World.cell?, hZ] at hc0 ⊢
        exact hc0
      have G0 : Hid (wr.drew.heap[B]? = some (.cells (K .u32 (part2 (overL hs V) hs k)) 23 (0, 0))) := n0
      have GZ : Hid (wr.drew.heap[B + 1 + 1]? = some (.cells (K .u32 (List.replicate 8 0)) 23 (0, 0))) := nz
      have GV : Hid (wr.drew.heap[B + 1]? = some (.cells (K .u32 V) 34 (0, 0))) := nv
      have GB : Hid (Below B w wr.drew) := below_drewN hb 1
      clear hc0 hc1 hc2 n0 nz nv hb hsz hln hwx hwy hwz
      go_wp2
      refine wp_region_noPanic ?_
      refine RG.wp_region_L (fun Z => Z.cell? ⟨B, k, none⟩ = some (.int .u32 x)) (fun Z => Z.cell? ⟨B + 1, k, none⟩ = some (.int .u32 y) ∧ Z.cell? ⟨B + 1, k + 8, none⟩ = some (.int .u32 z)) [13] (by kernel_rfl) ?_
      refine RG.wpL_take (fuel := 2) (a' := ?A) [0, 1, 2, 3, 4, 5, 6, 7, 8, 9, 10, 11] (by kernel_rfl) (by kernel_rfl) (fun _ _ _ _ _ h => h) (HTT.out _ rfl) (fun _ => HSS.out _ rfl) ?r ?_
      case r =>
        iterate 2
          refine RG.RunsIf.weak (v := ?_) (by rfl) (by rfl) (fun Z hT => ?_) ?_
          rotate_left
          · go_simp
            rfl
          simp only [Act.put, List.setIfInBounds_toArray, List.set_cons_zero, List.set_cons_succ]
        iterate 1
          refine RG.RunsIf.strong (v := ?_) (by rfl) (by kernel_rfl) (by rfl) (fun Z hT hS => ?_) ?_
          rotate_left
          · go_simp
            rfl
          simp only [Act.put, List.setIfInBounds_toArray, List.set_cons_zero, List.set_cons_succ]
        iterate 9
          refine RG.RunsIf.weak (v := ?_) (by rfl) (by rfl) (fun Z hT => ?_) ?_
          rotate_left
          · go_simp
            rfl
          simp only [Act.put, List.setIfInBounds_toArray, List.set_cons_zero, List.set_cons_succ]
        exact RG.RunsIf.nil
      have TT0 := TW.hide (HTT.out wr.drew rfl)
      have SS0 := TW.hide (HSS.out wr.drew rfl)
      have TTB : Hid (∀ (o : Nat) (u : Value), (wr.drew.setCell ⟨B, o, none⟩ u).cell? ⟨B + 1, k, none⟩ = some (.int .u32 y) ∧ (wr.drew.setCell ⟨B, o, none⟩ u).cell? ⟨B + 1, k + 8, none⟩ = some (.int .u32 z)) := fun o u => HTT.out _ (heap_setCell_other wr.drew ⟨B, o, none⟩ (B + 1) u (by show B + 1 ≠ B; omega))
      clear HTT HSS
      refine RG.wpL_any fun Y hY => ?_
      rw [← hY] at G0 GZ GV GB TT0 SS0 TTB
      clear hY
      refine RG.wpL_step (i := 12) (by kernel_rfl) (by rfl) (by rfl) (fun K hK => ?_)
      have HK := TW.hide hK
      clear hK
      go_simp
      refine HK.out _ _ TT0.out (fun _ => SS0.out) ?_
      clear HK K
      have c := blk_cellK G0.out (i := k) (by rw [HLN.out]; exact hlt)
      have f := blk_frozen G0.out (i := k)
      refine RG.wpL_late (i := 13) (by kernel_rfl) (by rfl) (by rfl) (by kernel_rfl) (fun K hK => ?_)
      have HK := TW.hide hK
      clear hK
      go_simp
      refine HK.out _ _ (TTB.out _ _) ?_
      clear HK K c f TTB TT0 SS0
      have m0 := blk_setK (i := k) (x := q) G0.out
      have mz := blk_other (p := B) (o := k) (u := .int .u32 q) GZ.out (by omega)
      have mv := blk_other (p := B) (o := k) (u := .int .u32 q) GV.out (by omega)
      have mb := GB.out.setCell (p := ⟨B, k, none⟩) (Nat.le_refl B) (.int .u32 q)
      clear G0 GZ GV GB
      generalize Y.setCell ⟨B, k, none⟩ (.int .u32 q) = Y2 at m0 mz mv mb ⊢
      have G0 := TW.hide m0
      have GZ := TW.hide mz
      have GV := TW.hide mv
      have GB := TW.hide mb
      clear m0 mz mv mb
      refine RG.wpL_done (by kernel_rfl) ?_ _
      refine NoPanic.normal ?_
      go_wp2
      go_roundw
      case rel =>
        refine ⟨k + 1, by omega, by go_num, ?_, GZ.out, GV.out, GB.out⟩
        rw [← HS.out]
        exact G0.out
      case measure => simp [intOf]; omega
    · obtain rfl : k = 8 := by omega
      rw [part2_full _ _ 8 HOL.out HL.out] at n0
      have hI := TW.hide (info8 (overL hs V) HOL.out)
      have hO := TW.hide (size8 (List.replicate 8 0) (overL hs V) rfl HOL.out)
      have G0 := TW.hide n0
      have GZ := TW.hide nz
      have GB := TW.hide hb
      clear n0 nz nv hb
      go_wp2_with (first | (refine wpList_load_row (by rfl) 23 _ (by rfl) (B) (by rfl) 23 (K .u32 (overL hs V)) (0, 0) _ G0.out Tryd.underlying23 rfl hI.out ?_) | (refine wpList_store_row (by rfl) 23 _ _ (by rfl) (B + 1 + 1) (K .u32 (overL hs V)) (by rfl) (by rfl) 23 _ GZ.out hI.out hO.out (K_one _ _) ?_))
      refine bodyPost_ret (v := .agg (K .u32 (overL hs V))) (results_cell_row (P := Tryd.prog) Tryd.results21 _ _ (B + 1 + 1) 23 (K .u32 (overL hs V)) (0, 0) _ (by rfl) (setRow_heap _ _ _ _ _ _ GZ.out) Tryd.underlying23 rfl hI.out) rfl ?_
      exact ⟨rfl, below_setRow GB.out (by omega)⟩
set_option maxRecDepth 100000 in
set_option maxHeartbeats 4000000 in
theorem rend (hs V : List Int) (w : World) (hl : hs.length = 8) (hv : V.length = 16) (hw : Ws hs) (hV : Ws V) :
    Calls Tryd.prog 39 #[.agg (K .u32 hs), .agg (K .u32 V)] w fun e w' => e = .returned (.agg (K .u32 (overL hs V))) ∧ Below w.heap.size w w' := by
  have hb := ((((Below.refl w.heap.size w).alloc (Nat.le_refl _) (.cells (K .u32 hs) 23)).alloc (by simp; try omega) (.cells (K .u32 V) 34)).alloc (by simp; try omega) (.cells (K .u32 (List.replicate 8 0)) 23))
  have n0 := (blk_alloc (o' := .cells (K .u32 (List.replicate 8 0)) 23) (blk_alloc (o' := .cells (K .u32 V) 34) (heap_new w (.cells (K .u32 hs) 23))))
  have n1 := (blk_alloc (o' := .cells (K .u32 (List.replicate 8 0)) 23) (heap_new (w.alloc (.cells (K .u32 hs) 23)) (.cells (K .u32 V) 34)))
  rw [show (w.alloc (.cells (K .u32 hs) 23)).heap.size = w.heap.size + 1 by simp] at n1
  have n2 := (heap_new ((w.alloc (.cells (K .u32 hs) 23)).alloc (.cells (K .u32 V) 34)) (.cells (K .u32 (List.replicate 8 0)) 23))
  rw [show ((w.alloc (.cells (K .u32 hs) 23)).alloc (.cells (K .u32 V) 34)).heap.size = w.heap.size + 1 + 1 by simp] at n2
  have HL := TW.hide hl
  have HLU := TW.hide hv
  have HW := TW.hide hw
  have HUW := TW.hide hV
  clear hl hv hw hV
  go_enter Tryd.func39, Tryd.ntmps39
  refine wp_seq_k fun K hK => ?_
  have HK := TW.hide hK
  clear hK
  go_wp2
  refine HK.out _ _ ?_
  clear HK K
  change Code.wp _ _ _ _ (((w.alloc (.cells (K .u32 hs) 23)).alloc (.cells (K .u32 V) 34)).alloc (.cells (K .u32 (List.replicate 8 0)) 23))
  generalize hWW : ((w.alloc (.cells (K .u32 hs) 23)).alloc (.cells (K .u32 V) 34)).alloc (.cells (K .u32 (List.replicate 8 0)) 23) = W at hb n0 n1 n2 ⊢
  have hW : W.heap.size = w.heap.size + 1 + 1 + 1 := by rw [← hWW]; simp
  clear hWW
  generalize hB : w.heap.size = B at *
  have G0 := TW.hide n0
  have GV := TW.hide n1
  have GZ := TW.hide n2
  have GB := TW.hide hb
  clear n0 n1 n2 hb
  clear hW hB
  go_wp2
  have HOL := TW.hide (overL_length hs V)
  go_loopw [5] (fun i wr => ∃ k : Nat, k ≤ 8 ∧ i = .int .i64 k ∧ wr.heap[B]? = some (.cells (K .u32 (part2 (overL hs V) hs k)) 23 (0, 0)) ∧ wr.heap[B + 1 + 1]? = some (.cells (K .u32 (List.replicate 8 0)) 23 (0, 0)) ∧ wr.heap[B + 1]? = some (.cells (K .u32 V) 34 (0, 0)) ∧ Below B w wr) (fun i _ => 8 - (intOf i).toNat)
  case atStart => exact ⟨0, Nat.zero_le _, rfl, by rw [part2_zero]; exact G0.out, GZ.out, GV.out, GB.out⟩
  case round =>
    obtain ⟨k, hk, rfl, n0, nz, nv, hb⟩ := hrel
    clear G0 GZ GV GB
    by_cases hlt : k < 8
    · have hc0 := blk_cellK n0 (i := k) (by rw [part2_length _ _ 8 _ HOL.out HL.out hk]; exact hlt)
      rw [part2_get _ _ 8 _ HOL.out HL.out hlt] at hc0
      have hc1 := blk_cellK nv (i := k) (by rw [HLU.out]; omega)
      have hc2 := blk_cellK nv (i := k + 8) (by rw [HLU.out]; omega)
      have hln := part2_length (overL hs V) hs 8 k HOL.out HL.out hk
      have hsz := part2_set (overL hs V) hs 8 k HOL.out HL.out hlt
      rw [overL_get hs V k hlt] at hsz
      have hwx := HW.out.get k
      have hwy := HUW.out.get k
      have hwz := HUW.out.get (k + 8)
      generalize hs.getD k 0 = x at *
      generalize V.getD k 0 = y at *
      generalize V.getD (k + 8) 0 = z at *
      rw [← xo_assoc x y z hwx hwy hwz] at hsz
      obtain ⟨q1, e1⟩ : ∃ q, xo x y = q := ⟨_, rfl⟩
      rw [e1] at hsz
      obtain ⟨q, e2⟩ : ∃ q, xo q1 z = q := ⟨_, rfl⟩
      rw [e2] at hsz
      unfold xo at e1 e2
      have HS := TW.hide hsz
      have HLN := TW.hide hln
      have k0 : (0 : Int) ≤ (k : Int) := by omega
      have k1 : (k : Int) < 8 := by omega
      have k2 : (k : Int) < 16 := by omega
      have k3 : (k : Int) + 8 < 16 := by omega
      have k4 : (0 : Int) ≤ (k : Int) + 8 := by omega
      have hnk : IntKind.i64.wrap ((k : Int) + 8) = (k : Int) + 8 := by rw [IntKind.wrap_i64]; omega
      have hnt : ((k : Int) + 8).toNat = k + 8 := by omega
      have HTT : Hid (∀ Z : World, Z.heap[B + 1]? = wr.heap[B + 1]? → Z.cell? ⟨B + 1, k, none⟩ = some (.int .u32 y) ∧ Z.cell? ⟨B + 1, k + 8, none⟩ = some (.int .u32 z)) := fun Z hZ => by
        simp only [World.cell?, hZ] at hc1 hc2 ⊢
        exact ⟨hc1, hc2⟩
      have HSS : Hid (∀ Z : World, Z.heap = wr.heap → Z.cell? ⟨B, k, none⟩ = some (.int .u32 x)) := fun Z hZ => by
        simp only [World.cell?, hZ] at hc0 ⊢
        exact hc0
      have G0 : Hid (wr.drew.heap[B]? = some (.cells (K .u32 (part2 (overL hs V) hs k)) 23 (0, 0))) := n0
      have GZ : Hid (wr.drew.heap[B + 1 + 1]? = some (.cells (K .u32 (List.replicate 8 0)) 23 (0, 0))) := nz
      have GV : Hid (wr.drew.heap[B + 1]? = some (.cells (K .u32 V) 34 (0, 0))) := nv
      have GB : Hid (Below B w wr.drew) := below_drewN hb 1
      clear hc0 hc1 hc2 n0 nz nv hb hsz hln hwx hwy hwz
      go_wp2
      refine wp_region_noPanic ?_
      refine RG.wp_region_L (fun Z => Z.cell? ⟨B, k, none⟩ = some (.int .u32 x)) (fun Z => Z.cell? ⟨B + 1, k, none⟩ = some (.int .u32 y) ∧ Z.cell? ⟨B + 1, k + 8, none⟩ = some (.int .u32 z)) [14] (by kernel_rfl) ?_
      refine RG.wpL_take (fuel := 2) (a' := ?A) [0, 1, 2, 3, 4, 5, 6, 7, 8, 9, 10, 11, 12] (by kernel_rfl) (by kernel_rfl) (fun _ _ _ _ _ h => h) (HTT.out _ rfl) (fun _ => HSS.out _ rfl) ?r ?_
      case r =>
        iterate 3
          refine RG.RunsIf.weak (v := ?_) (by rfl) (by rfl) (fun Z hT => ?_) ?_
          rotate_left
          · go_simp
            rfl
          simp only [Act.put, List.setIfInBounds_toArray, List.set_cons_zero, List.set_cons_succ]
        iterate 1
          refine RG.RunsIf.strong (v := ?_) (by rfl) (by kernel_rfl) (by rfl) (fun Z hT hS => ?_) ?_
          rotate_left
          · go_simp
            rfl
          simp only [Act.put, List.setIfInBounds_toArray, List.set_cons_zero, List.set_cons_succ]
        iterate 9
          refine RG.RunsIf.weak (v := ?_) (by rfl) (by rfl) (fun Z hT => ?_) ?_
          rotate_left
          · go_simp
            rfl
          simp only [Act.put, List.setIfInBounds_toArray, List.set_cons_zero, List.set_cons_succ]
        exact RG.RunsIf.nil
      have TT0 := TW.hide (HTT.out wr.drew rfl)
      have SS0 := TW.hide (HSS.out wr.drew rfl)
      have TTB : Hid (∀ (o : Nat) (u : Value), (wr.drew.setCell ⟨B, o, none⟩ u).cell? ⟨B + 1, k, none⟩ = some (.int .u32 y) ∧ (wr.drew.setCell ⟨B, o, none⟩ u).cell? ⟨B + 1, k + 8, none⟩ = some (.int .u32 z)) := fun o u => HTT.out _ (heap_setCell_other wr.drew ⟨B, o, none⟩ (B + 1) u (by show B + 1 ≠ B; omega))
      clear HTT HSS
      refine RG.wpL_any fun Y hY => ?_
      rw [← hY] at G0 GZ GV GB TT0 SS0 TTB
      clear hY
      refine RG.wpL_step (i := 13) (by kernel_rfl) (by rfl) (by rfl) (fun K hK => ?_)
      have HK := TW.hide hK
      clear hK
      go_simp
      refine HK.out _ _ TT0.out (fun _ => SS0.out) ?_
      clear HK K
      have c := blk_cellK G0.out (i := k) (by rw [HLN.out]; exact hlt)
      have f := blk_frozen G0.out (i := k)
      refine RG.wpL_late (i := 14) (by kernel_rfl) (by rfl) (by rfl) (by kernel_rfl) (fun K hK => ?_)
      have HK := TW.hide hK
      clear hK
      go_simp
      refine HK.out _ _ (TTB.out _ _) ?_
      clear HK K c f TTB TT0 SS0
      have m0 := blk_setK (i := k) (x := q) G0.out
      have mz := blk_other (p := B) (o := k) (u := .int .u32 q) GZ.out (by omega)
      have mv := blk_other (p := B) (o := k) (u := .int .u32 q) GV.out (by omega)
      have mb := GB.out.setCell (p := ⟨B, k, none⟩) (Nat.le_refl B) (.int .u32 q)
      clear G0 GZ GV GB
      generalize Y.setCell ⟨B, k, none⟩ (.int .u32 q) = Y2 at m0 mz mv mb ⊢
      have G0 := TW.hide m0
      have GZ := TW.hide mz
      have GV := TW.hide mv
      have GB := TW.hide mb
      clear m0 mz mv mb
      refine RG.wpL_done (by kernel_rfl) ?_ _
      refine NoPanic.normal ?_
      go_wp2
      go_roundw
      case rel =>
        refine ⟨k + 1, by omega, by go_num, ?_, GZ.out, GV.out, GB.out⟩
        rw [← HS.out]
        exact G0.out
      case measure => simp [intOf]; omega
    · obtain rfl : k = 8 := by omega
      rw [part2_full _ _ 8 HOL.out HL.out] at n0
      have hI := TW.hide (info8 (overL hs V) HOL.out)
      have hO := TW.hide (size8 (List.replicate 8 0) (overL hs V) rfl HOL.out)
      have G0 := TW.hide n0
      have GZ := TW.hide nz
      have GB := TW.hide hb
      clear n0 nz nv hb
      go_wp2_with (first | (refine wpList_load_row (by rfl) 23 _ (by rfl) (B) (by rfl) 23 (K .u32 (overL hs V)) (0, 0) _ G0.out Tryd.underlying23 rfl hI.out ?_) | (refine wpList_store_row (by rfl) 23 _ _ (by rfl) (B + 1 + 1) (K .u32 (overL hs V)) (by rfl) (by rfl) 23 _ GZ.out hI.out hO.out (K_one _ _) ?_))
      refine bodyPost_ret (v := .agg (K .u32 (overL hs V))) (results_cell_row (P := Tryd.prog) Tryd.results39 _ _ (B + 1 + 1) 23 (K .u32 (overL hs V)) (0, 0) _ (by rfl) (setRow_heap _ _ _ _ _ _ GZ.out) Tryd.underlying23 rfl hI.out) rfl ?_
      exact ⟨rfl, below_setRow GB.out (by omega)⟩
end MX
end Go.Proofs.YtecepllidmkmhabDoor
