/-
  A hasher of 64-bit words to which nothing was written: what newStream tells, whatever the table is.
-/
import Derived.Test.YtplpplbmajiclabGreatNewS2
import Derived.Test.YtplpplbmajiclabGreatPair
namespace Go.Proofs.YtplpplbmajiclabGreat
open Go.RowKit
set_option linter.unusedVariables false
set_option linter.unusedSimpArgs false
namespace LW
open Words
theorem sC_two (b : ByteArray) (l0 l1 l2 l3 l4 l5 l6 l7 : Int) : (sC b .empty [l0, l1, l2, l3, l4, l5, l6, l7])[2]? = some (.string .empty) := by kernel_rfl
theorem val_build {P : Program} {a : Act} {w : World} {o : Oper} {t : TypeId} {parts : Array (Nat × Operand)} {v : Value} (ho : o.op = .build t parts) (hb : (Instr.build t (parts.map fun (i, x) => (i, a.eval x))).run P w = .ok v w) :
    (execOp a.eval o).run P w = .ok (.value v) w := by
  simp only [execOp, ho, Sem.run_bind, hb, Result.andThen_ok, Sem.run_pure]
set_option maxRecDepth 100000 in
set_option maxHeartbeats 4000000 in
theorem newS (gz : Nat) (zs iv : List Int) (w : World) (hz : Byt zs) (hr : w.heap[gz]? = some (.cells (vs zs).toArray 5 (0, 0))) (hl : zs.length = 64) (hiv : iv.length = 8) (ti : w.heap[2]? = some (.cells (K .u64 iv) 102 (0, 0))) :
    Calls Tryz.prog 48 #[.iface 106 (.agg #[]), .slice (some ⟨gz, 0, none⟩) 64 64, .slice none 0 0] w fun e w' => ∃ cs : Array Value, e = .returned (.agg cs) ∧ Below w.heap.size w w' := by
  have HROW : Hid (∀ W : World, W.heap[gz]? = some (.cells (vs zs).toArray 5 (0, 0)) → ∀ i, i < zs.length → W.cell? ⟨gz, 0 + i, none⟩ = some (.int .u8 (zs.getD i 0))) := fun W h i hi => by
    rw [Nat.zero_add]
    exact blk_cell h (by rw [List.getElem?_toArray]; exact vs_get zs i hi)
  have HS := TW.hide (fun W (h : W.heap[gz]? = some (.cells (vs zs).toArray 5 (0, 0))) (t : W.heap[2]? = some (.cells (K .u64 iv) 102 (0, 0))) => bigStart (some ⟨gz, 0, none⟩) 64 zs iv W hz (.inr ⟨gz, 0, rfl, HROW.out W h⟩) hl hiv t)
  have HC1 : Hid (∀ W : World, W.heap[gz]? = some (.cells (vs zs).toArray 5 (0, 0)) → (convert 22 9 (.slice (some ⟨gz, 0, none⟩) 64 64)).run Tryz.prog W = .ok (.string (strOfNums zs)) W) := fun W h => by
    have := run_convert_bytes_arg (P := Tryz.prog) W 22 5 Tryz.underlying22 Tryz.underlying5 gz 0 64 64 zs hl (fun i hi => HROW.out W h i (by omega)) 9 Tryz.underlying9
    exact this
  have HC2 : Hid (∀ W : World, (convert 22 9 (.slice none 0 0)).run Tryz.prog W = .ok (.string .empty) W) := fun W => run_convert_bytes_nil (P := Tryz.prog) W 22 5 Tryz.underlying22 Tryz.underlying5 0 0 9 Tryz.underlying9
  generalize strOfNums zs = SB at *
  have HB8 : Hid (∀ l : List Int, l.length = 8 → ∃ cs : Array Value, (∀ W : World, (Instr.build 104 #[(0, .iface 106 (.agg #[])), (1, .string SB), (2, .string .empty), (4, .agg (K .u64 l))]).run Tryz.prog W = .ok (.agg cs) W) ∧ cs[2]? = some (.string .empty) ∧ (Tryz.prog.info? 104).map (·.size) = some cs.size ∧ Tryz.zeroCells104.size = cs.size ∧ cs.all (·.oneCell') = true) := fun l h => by
    obtain ⟨l0, l1, l2, l3, l4, l5, l6, l7, rfl⟩ := eight l h
    exact ⟨_, fun W => buildS SB .empty l0 l1 l2 l3 l4 l5 l6 l7 W, sC_two _ _ _ _ _ _ _ _ _, sC_info _ _ _ _ _ _ _ _ _ _, sC_zero _ _ _ _ _ _ _ _ _ _, sC_one _ _ _ _ _ _ _ _ _ _⟩
  have b0 := ((Below.refl w.heap.size w).alloc (Nat.le_refl _) (.cells Tryz.zeroCells104 104))
  have n0 := heap_alloc_new w (.cells Tryz.zeroCells104 104)
  have r0 := blk_keep hr b0
  have t0 := blk_keep ti b0
  go_enter Tryz.func48, Tryz.ntmps48
  refine wp_seq_k fun K hK => ?_
  have HK := TW.hide hK
  clear hK
  go_wp2
  refine HK.out _ _ ?_
  clear HK K
  generalize w.alloc (.cells Tryz.zeroCells104 104) = X at *
  generalize hB : w.heap.size = B at *
  have B0 := TW.hide b0
  have N0 := TW.hide n0
  have R0 := TW.hide r0
  have T0 := TW.hide t0
  have BX := TW.hide (Below.refl X.heap.size X)
  clear b0 n0 r0 t0 hr ti hiv hl hz HROW
  refine wp_seq_k fun KK hK => ?_
  have HKK := TW.hide hK
  clear hK
  refine wp_region_noPanic ?_
  refine RG.wp_region_L (fun Z => True) (fun Z => Below X.heap.size X Z) [] (by kernel_rfl) ?_
  refine RG.wpL_any fun Ya hY => ?_
  have HTa : Hid (Below X.heap.size X Ya) := by rw [hY]; exact below_drewN BX.out 1
  clear hY
  refine RG.wpL_take (fuel := 4) (a' := ?Aa) [0, 1, 2, 3, 4, 5, 6] (by kernel_rfl) (by kernel_rfl) (fun _ _ _ _ _ h => h) HTa.out (fun _ => trivial) ?ra ?_
  case ra =>
    refine RG.RunsIf.weak (v := ?_) (by rfl) (by rfl) (fun Z hT => ?_) ?_
    rotate_left
    · go_simp
      rfl
    simp only [Act.put, List.setIfInBounds_toArray, List.set_cons_zero, List.set_cons_succ, List.getElem_toArray, List.getElem_cons_zero, List.getElem_cons_succ]
    refine RG.RunsIf.weak (v := ?_) (by rfl) (by rfl) (fun Z hT => ?_) ?_
    rotate_left
    · go_simp
      rfl
    simp only [Act.put, List.setIfInBounds_toArray, List.set_cons_zero, List.set_cons_succ, List.getElem_toArray, List.getElem_cons_zero, List.getElem_cons_succ]
    refine RG.RunsIf.weak (v := .string SB) (by rfl) (by rfl) (fun Z hT => ?_) ?_
    · have cz := HC1.out Z (blk_keep R0.out hT)
      go_simp
    simp only [Act.put, List.setIfInBounds_toArray, List.set_cons_zero, List.set_cons_succ, List.getElem_toArray, List.getElem_cons_zero, List.getElem_cons_succ]
    refine RG.RunsIf.weak (v := ?_) (by rfl) (by rfl) (fun Z hT => ?_) ?_
    rotate_left
    · go_simp
      rfl
    simp only [Act.put, List.setIfInBounds_toArray, List.set_cons_zero, List.set_cons_succ, List.getElem_toArray, List.getElem_cons_zero, List.getElem_cons_succ]
    refine RG.RunsIf.weak (v := .string .empty) (by rfl) (by rfl) (fun Z hT => ?_) ?_
    · have cz := HC2.out Z
      go_simp
    simp only [Act.put, List.setIfInBounds_toArray, List.set_cons_zero, List.set_cons_succ, List.getElem_toArray, List.getElem_cons_zero, List.getElem_cons_succ]
    refine RG.RunsIf.weak (v := ?_) (by rfl) (by rfl) (fun Z hT => ?_) ?_
    rotate_left
    · go_simp
      rfl
    simp only [Act.put, List.setIfInBounds_toArray, List.set_cons_zero, List.set_cons_succ, List.getElem_toArray, List.getElem_cons_zero, List.getElem_cons_succ]
    refine RG.RunsIf.weak (v := ?_) (by rfl) (by rfl) (fun Z hT => ?_) ?_
    rotate_left
    · go_simp
      rfl
    simp only [Act.put, List.setIfInBounds_toArray, List.set_cons_zero, List.set_cons_succ, List.getElem_toArray, List.getElem_cons_zero, List.getElem_cons_succ]
    exact RG.RunsIf.nil
  refine RG.wpL_pair (i := 7) (j := 9) (by kernel_rfl) (by rfl) (by rfl) (by rfl) (by rfl) (fun KX hK => ?_) (fun KX hK => ?_)
  · have HK := TW.hide hK
    clear hK
    go_simp
    refine (HS.out _ (blk_keep R0.out HTa.out) (blk_keep T0.out HTa.out)).mono ?_
    rintro e W1 ⟨l, hl8, rfl, hb1⟩
    obtain ⟨cs, HBU, hc2, hci, hcz, hc1⟩ := HB8.out l hl8
    have HC := TW.hide (And.intro hc2 (And.intro hci (And.intro hcz hc1)))
    clear hc2 hci hcz hc1 hl8
    generalize K .u64 l = kl at *
    have Hc : Hid (Below X.heap.size X W1) := below_row HTa.out hb1 HTa.out.size
    refine HK.out _ _ Hc.out (fun _ => trivial) ?_
    clear HK KX hb1
    try simp only [Act.put, List.setIfInBounds_toArray, List.set_cons_zero, List.set_cons_succ, List.getElem_toArray, List.getElem_cons_zero, List.getElem_cons_succ]
    refine RG.wpL_take (fuel := 2) (a' := ?Aap) [8] (by kernel_rfl) (by kernel_rfl) (fun _ _ _ _ _ h => h) Hc.out (fun _ => trivial) ?rap ?_
    case rap =>
      refine RG.RunsIf.weak (v := .agg cs) (by rfl) (by rfl) (fun Z hT => val_build (t := 104) (parts := #[(0, .tmp 8), (1, .tmp 10), (2, .tmp 12), (4, .tmp 15)]) (by rfl) (by simp only [List.map_toArray, List.map_cons, List.map_nil]; exact HBU Z)) ?_
      simp only [Act.put, List.setIfInBounds_toArray, List.set_cons_zero, List.set_cons_succ, List.getElem_toArray, List.getElem_cons_zero, List.getElem_cons_succ]
      exact RG.RunsIf.nil
    have hgB : X.heap.size ≤ W1.heap.size := Hc.out.size
    have Ha : Hid (Below X.heap.size X (W1.alloc (.cells Tryz.zeroCells104 104))) := Hc.out.alloc hgB _
    have Na := TW.hide (heap_alloc_new W1 (.cells Tryz.zeroCells104 104))
    refine RG.wpL_step (i := 9) (by kernel_rfl) (by rfl) (by rfl) (fun KX hK => ?_)
    have HK := TW.hide hK
    clear hK
    go_simp
    refine HK.out _ _ Ha.out (fun _ => trivial) ?_
    clear HK KX Hc
    generalize W1.alloc (.cells Tryz.zeroCells104 104) = X1 at *
    generalize W1.heap.size = g at *
    have hgl1 : g < X1.heap.size := blk_lt Na.out
    have T51 : Hid (Below X.heap.size X (X1.setRow g cs)) := below_setRow Ha.out hgB
    have N51 := TW.hide (setRow_heap _ _ _ cs _ _ Na.out)
    refine RG.wpL_step (i := 10) (by kernel_rfl) (by rfl) (by rfl) (fun KX hK => ?_)
    have HK := TW.hide hK
    clear hK
    refine wp_store_row 104 _ _ (by rfl) g cs (by rfl) (by rfl) 104 _ Na.out HC.out.2.1 HC.out.2.2.1 HC.out.2.2.2 ?_
    simp only [Act.put, List.setIfInBounds_toArray, List.set_cons_zero, List.set_cons_succ, List.getElem_toArray, List.getElem_cons_zero, List.getElem_cons_succ]
    refine HK.out _ _ T51.out (fun _ => trivial) ?_
    clear HK KX Ha Na
    generalize X1.setRow g cs = Z1 at *
    refine RG.wpL_done (by kernel_rfl) ?_ _
    refine NoPanic.normal ?_
    refine HKK.out _ _ ?_
    clear HKK KK
    have NBx := TW.hide (blk_keep N0.out T51.out)
    have BBx : Hid (Below B w Z1) := below_row B0.out T51.out (by have := blk_lt N0.out; omega)
    have hgnx : B ≠ g := by have := blk_lt N0.out; omega
    clear T51 HBU HS HC1 HC2 HB8
    have HKD := TW.hide (fun W => keyed cs W HC.out.1 HC.out.2.1)
    go_wp2_with (refine wpList_load_row (by rfl) 104 _ (by rfl) g (by rfl) 104 cs (0, 0) _ N51.out Tryz.underlying104 rfl HC.out.2.1 ?_)
    refine (HKD.out _).mono ?_
    rintro e Vx ⟨rfl, hb⟩
    have NG2x := TW.hide (blk_keep N51.out hb)
    have NB2x := TW.hide (blk_keep NBx.out hb)
    have BB2x : Hid (Below B w Vx) := below_row BBx.out hb (by have := blk_lt NBx.out; omega)
    clear hb
    go_wp2_with (first | (refine wpList_load_row (by rfl) 104 _ (by rfl) g (by rfl) 104 cs (0, 0) _ NG2x.out Tryz.underlying104 rfl HC.out.2.1 ?_) | (refine wpList_store_row (by rfl) 104 _ _ (by rfl) B cs (by rfl) (by rfl) 104 _ NB2x.out HC.out.2.1 HC.out.2.2.1 HC.out.2.2.2 ?_))
    refine bodyPost_ret (v := .agg cs) (results_cell_row (P := Tryz.prog) Tryz.results48 _ _ B 104 _ (0, 0) _ rfl (setRow_heap _ _ _ _ _ _ NB2x.out) Tryz.underlying104 rfl HC.out.2.1) rfl ?_
    exact ⟨cs, rfl, below_setRow BB2x.out (Nat.le_refl _)⟩
  · have HK := TW.hide hK
    clear hK
    have hgB : X.heap.size ≤ Ya.heap.size := HTa.out.size
    have Ha : Hid (Below X.heap.size X (Ya.alloc (.cells Tryz.zeroCells104 104))) := HTa.out.alloc hgB _
    have Na := TW.hide (heap_alloc_new Ya (.cells Tryz.zeroCells104 104))
    go_simp
    refine HK.out _ _ Ha.out (fun _ => trivial) ?_
    clear HK KX HTa
    generalize Ya.alloc (.cells Tryz.zeroCells104 104) = X0 at *
    generalize Ya.heap.size = g at *
    try simp only [Act.put, List.setIfInBounds_toArray, List.set_cons_zero, List.set_cons_succ, List.getElem_toArray, List.getElem_cons_zero, List.getElem_cons_succ]
    refine RG.wpL_step (i := 7) (by kernel_rfl) (by rfl) (by rfl) (fun KX hK => ?_)
    have HK := TW.hide hK
    clear hK
    go_simp
    refine (HS.out _ (blk_keep R0.out Ha.out) (blk_keep T0.out Ha.out)).mono ?_
    rintro e X2 ⟨l, hl8, rfl, hb1⟩
    obtain ⟨cs, HBU, hc2, hci, hcz, hc1⟩ := HB8.out l hl8
    have HC := TW.hide (And.intro hc2 (And.intro hci (And.intro hcz hc1)))
    clear hc2 hci hcz hc1 hl8
    generalize K .u64 l = kl at *
    have Hc : Hid (Below X.heap.size X X2) := below_row Ha.out hb1 Ha.out.size
    have Nc := TW.hide (blk_keep Na.out hb1)
    refine HK.out _ _ Hc.out (fun _ => trivial) ?_
    clear HK KX hb1 Ha Na
    try simp only [Act.put, List.setIfInBounds_toArray, List.set_cons_zero, List.set_cons_succ, List.getElem_toArray, List.getElem_cons_zero, List.getElem_cons_succ]
    refine RG.wpL_take (fuel := 1) (a' := ?Aaq) [8] (by kernel_rfl) (by kernel_rfl) (fun _ _ _ _ _ h => h) Hc.out (fun _ => trivial) ?raq ?_
    case raq =>
      refine RG.RunsIf.weak (v := .agg cs) (by rfl) (by rfl) (fun Z hT => val_build (t := 104) (parts := #[(0, .tmp 8), (1, .tmp 10), (2, .tmp 12), (4, .tmp 15)]) (by rfl) (by simp only [List.map_toArray, List.map_cons, List.map_nil]; exact HBU Z)) ?_
      simp only [Act.put, List.setIfInBounds_toArray, List.set_cons_zero, List.set_cons_succ, List.getElem_toArray, List.getElem_cons_zero, List.getElem_cons_succ]
      exact RG.RunsIf.nil
    have hgl2 : g < X2.heap.size := blk_lt Nc.out
    have T52 : Hid (Below X.heap.size X (X2.setRow g cs)) := below_setRow Hc.out hgB
    have N52 := TW.hide (setRow_heap _ _ _ cs _ _ Nc.out)
    refine RG.wpL_step (i := 10) (by kernel_rfl) (by rfl) (by rfl) (fun KX hK => ?_)
    have HK := TW.hide hK
    clear hK
    refine wp_store_row 104 _ _ (by rfl) g cs (by rfl) (by rfl) 104 _ Nc.out HC.out.2.1 HC.out.2.2.1 HC.out.2.2.2 ?_
    simp only [Act.put, List.setIfInBounds_toArray, List.set_cons_zero, List.set_cons_succ, List.getElem_toArray, List.getElem_cons_zero, List.getElem_cons_succ]
    refine HK.out _ _ T52.out (fun _ => trivial) ?_
    clear HK KX Hc Nc
    generalize X2.setRow g cs = Z2 at *
    refine RG.wpL_done (by kernel_rfl) ?_ _
    refine NoPanic.normal ?_
    refine HKK.out _ _ ?_
    clear HKK KK
    have NBy := TW.hide (blk_keep N0.out T52.out)
    have BBy : Hid (Below B w Z2) := below_row B0.out T52.out (by have := blk_lt N0.out; omega)
    have hgny : B ≠ g := by have := blk_lt N0.out; omega
    clear T52 HBU HS HC1 HC2 HB8
    have HKD := TW.hide (fun W => keyed cs W HC.out.1 HC.out.2.1)
    go_wp2_with (refine wpList_load_row (by rfl) 104 _ (by rfl) g (by rfl) 104 cs (0, 0) _ N52.out Tryz.underlying104 rfl HC.out.2.1 ?_)
    refine (HKD.out _).mono ?_
    rintro e Vy ⟨rfl, hb⟩
    have NG2y := TW.hide (blk_keep N52.out hb)
    have NB2y := TW.hide (blk_keep NBy.out hb)
    have BB2y : Hid (Below B w Vy) := below_row BBy.out hb (by have := blk_lt NBy.out; omega)
    clear hb
    go_wp2_with (first | (refine wpList_load_row (by rfl) 104 _ (by rfl) g (by rfl) 104 cs (0, 0) _ NG2y.out Tryz.underlying104 rfl HC.out.2.1 ?_) | (refine wpList_store_row (by rfl) 104 _ _ (by rfl) B cs (by rfl) (by rfl) 104 _ NB2y.out HC.out.2.1 HC.out.2.2.1 HC.out.2.2.2 ?_))
    refine bodyPost_ret (v := .agg cs) (results_cell_row (P := Tryz.prog) Tryz.results48 _ _ B 104 _ (0, 0) _ rfl (setRow_heap _ _ _ _ _ _ NB2y.out) Tryz.underlying104 rfl HC.out.2.1) rfl ?_
    exact ⟨cs, rfl, below_setRow BB2y.out (Nat.le_refl _)⟩
end LW
end Go.Proofs.YtplpplbmajiclabGreat
