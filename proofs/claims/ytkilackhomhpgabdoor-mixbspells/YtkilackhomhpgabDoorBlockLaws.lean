/-
  What the laws MixbInits and MixbBlocks do: every Init and every F of the program answers as the document's.
-/
import Derived.Test.YtkilackhomhpgabDoorRF
import Derived.Test.YtkilackhomhpgabDoorEql
namespace Go.Proofs.YtkilackhomhpgabDoor
open Go.RowKit
set_option linter.unusedVariables false
set_option linter.unusedSimpArgs false
namespace MX
open Turn
attribute [local go_sem ↓] Go.wp_at_zero Go.wp_at_succ
/-- The cells of a Block. -/
def blockC (hs ms : List Int) (lo hi : Int) (la no : Bool) : Array Value := (hs.map (Value.int .u64) ++ (ms.map (Value.int .u64) ++ [Value.int .u64 lo, Value.int .u64 hi, Value.bool la, Value.bool no])).toArray
theorem block_cell (hs ms : List Int) (lo hi : Int) (la no : Bool) (hl : hs.length = 8) (hm : ms.length = 16) (Z : World) (B : Nat) (h : Z.heap[B]? = some (.cells (blockC hs ms lo hi la no) 28 (0, 0))) :
    Z.rangeAt B 0 (hs.map (Value.int .u64)) ∧ Z.rangeAt B 8 (ms.map (Value.int .u64)) ∧ Z.rangeAt B 24 [Value.int .u64 lo, Value.int .u64 hi] ∧ Z.cell? ⟨B, 24, none⟩ = some (.int .u64 lo) ∧ Z.cell? ⟨B, 25, none⟩ = some (.int .u64 hi) ∧ Z.cell? ⟨B, 26, none⟩ = some (.bool la) ∧ Z.cell? ⟨B, 27, none⟩ = some (.bool no) := by
  have h8 : (hs.map (Value.int .u64)).length = 8 := by rw [List.length_map, hl]
  have h16 : (ms.map (Value.int .u64)).length = 16 := by rw [List.length_map, hm]
  have hc : ∀ i v, (hs.map (Value.int .u64) ++ (ms.map (Value.int .u64) ++ [Value.int .u64 lo, Value.int .u64 hi, Value.bool la, Value.bool no]))[i]? = some v → Z.cell? ⟨B, i, none⟩ = some v := fun i v hv =>
    blk_cell h (by simp only [blockC, List.getElem?_toArray]; exact hv)
  have hd : ∀ i v, [Value.int .u64 lo, Value.int .u64 hi, Value.bool la, Value.bool no][i]? = some v → Z.cell? ⟨B, 24 + i, none⟩ = some v := fun i v hv =>
    hc _ _ (by rw [List.getElem?_append_right (by omega), List.getElem?_append_right (by omega), h8, h16, show 24 + i - 8 - 16 = i by omega]; exact hv)
  refine ⟨fun j v hj => ?_, fun j v hj => ?_, fun j v hj => ?_, hd 0 _ rfl, hd 1 _ rfl, hd 2 _ rfl, hd 3 _ rfl⟩
  · have hlt := (List.getElem?_eq_some_iff.1 hj).1
    rw [Nat.zero_add]
    exact hc _ _ (by rw [List.getElem?_append_left hlt]; exact hj)
  · have hlt := (List.getElem?_eq_some_iff.1 hj).1
    exact hc _ _ (by rw [List.getElem?_append_right (by omega), h8, show 8 + j - 8 = j by omega, List.getElem?_append_left hlt]; exact hj)
  · have hlt := (List.getElem?_eq_some_iff.1 hj).1
    refine hd j v ?_
    have : j = 0 ∨ j = 1 := by simp at hlt; omega
    rcases this with rfl | rfl <;> exact hj
theorem exec_load_mid {P : Program} {o : Oper} {a : Act} {w : World} (ty : TypeId) (x : Operand) (ho : o.op = .load ty x) (b off : Nat) (hx : a.eval x = .pointer (some ⟨b, off, none⟩)) (cs : List Value) (d : TypeDesc)
    (hc : w.rangeAt b off cs) (hu : P.underlying ty = some d) (hd : d.isRow = true) (hi : (P.info? ty).map (·.size) = some cs.length) :
    (execOp a.eval o).run P w = .ok (.value (.agg cs.toArray)) w := by
  unfold execOp
  simp only [ho, hx, Instr.loadAt, Instr.sureAddr, Sem.run_bind, Sem.run_pure, Result.andThen_ok, run_loadVar_mid w b off ty cs d hc hu hd hi]
set_option maxRecDepth 100000 in
set_option maxHeartbeats 4000000 in
theorem initsWalk (hs ms : List Int) (lo hi : Int) (la no : Bool) (w : World) (ti : Tab w 0 .u64 ivL) (hl : hs.length = 8) (hm : ms.length = 16) (hw : Ws hs) (hM : Ws ms) (wl : W lo) (wh : W hi) :
    Calls Tryd.prog 3 #[.agg (blockC hs ms lo hi la no)] w fun e w' => e = .returned (.bool true) ∧ Below w.heap.size w w' := by
  have i8 : (Tryd.prog.info? 23).map (·.size) = some (hs.map (Value.int .u64)).length := by rw [List.length_map, hl]; kernel_rfl
  have i16 : (Tryd.prog.info? 24).map (·.size) = some (ms.map (Value.int .u64)).length := by rw [List.length_map, hm]; kernel_rfl
  have q1 := fun W => eq16 W (initL hs lo hi la no) (initL hs lo hi la no) (initL_length hs lo hi la no hl) (initL_length hs lo hi la no hl)
  simp only [decide_true] at q1
  have hsc := fun Z B => block_cell hs ms lo hi la no hl hm Z B
  have hp1 := fun Y (hb : Below w.heap.size w Y) => init hs lo hi la no Y (ti.below hb) hl hw wl wh
  have hp2 := fun Y => rinit hs lo hi la no Y hl hw wl wh
  have I8 := TW.hide i8
  have I16 := TW.hide i16
  have Q1 := TW.hide q1
  have HSC := TW.hide hsc
  have HP1 := TW.hide hp1
  have HP2 := TW.hide hp2
  clear i8 i16 q1 hsc hp1 hp2
  have hb := ((Below.refl w.heap.size w).alloc (Nat.le_refl _) (.cells (blockC hs ms lo hi la no) 28))
  have n0 := (heap_new w (.cells (blockC hs ms lo hi la no) 28))
  go_enter Tryd.func3, Tryd.ntmps3
  refine wp_seq_k fun K hK => ?_
  have HK := TW.hide hK
  clear hK
  go_wp2
  refine HK.out _ _ ?_
  clear HK K
  change Code.wp _ _ _ _ (w.alloc (.cells (blockC hs ms lo hi la no) 28))
  generalize hWW : w.alloc (.cells (blockC hs ms lo hi la no) 28) = W at hb n0 ⊢
  have hW : W.heap.size = w.heap.size + 1 := by rw [← hWW]; simp
  clear hWW
  generalize hB : w.heap.size = B at *
  have HT : Hid (W.heap[B]? = some (.cells (blockC hs ms lo hi la no) 28 (0, 0)) ∧ Below B w W) := ⟨n0, hb⟩
  have hq1 := hW
  clear n0 hb hW hq1
  refine wp_seq ?_
  refine wp_region_noPanic ?_
  refine RG.wp_region_L (fun Z => True) (fun Z => Z.heap[B]? = some (.cells (blockC hs ms lo hi la no) 28 (0, 0)) ∧ Below B w Z) [] (by kernel_rfl) ?_
  have HT0 : Hid (W.drew.heap[B]? = some (.cells (blockC hs ms lo hi la no) 28 (0, 0)) ∧ Below B w W.drew) := ⟨HT.out.1, below_drewN HT.out.2 1⟩
  clear HT
  generalize W.drew = Y0 at *
  refine RG.wpL_take (fuel := 4) (a' := ?A) [0, 1, 2, 3, 4, 5, 6, 7, 9, 10, 11, 12, 13, 14, 15, 16, 17, 18, 19, 20] (by kernel_rfl) (by kernel_rfl) (fun _ _ _ _ _ h => h) HT0.out (fun _ => trivial) ?r ?_
  case r =>
    refine RG.RunsIf.weak (v := ?_) (by rfl) (by rfl) (fun Z hT => ?_) ?_
    rotate_left
    · obtain ⟨_, _, _, c0, c1, c2, c3⟩ := HSC.out Z B hT.1
      go_simp
      rfl
    simp only [Act.put, List.setIfInBounds_toArray, List.set_cons_zero, List.set_cons_succ, List.getElem_toArray, List.getElem_cons_zero, List.getElem_cons_succ]
    refine RG.RunsIf.weak (by rfl) (by rfl) (fun Z hT => exec_load_mid 23 _ (by rfl) B 0 (by rfl) (hs.map (Value.int .u64)) _ (HSC.out Z B hT.1).1 Tryd.underlying23 rfl I8.out) ?_
    simp only [Act.put, List.setIfInBounds_toArray, List.set_cons_zero, List.set_cons_succ, List.getElem_toArray, List.getElem_cons_zero, List.getElem_cons_succ]
    refine RG.RunsIf.weak (v := ?_) (by rfl) (by rfl) (fun Z hT => ?_) ?_
    rotate_left
    · obtain ⟨_, _, _, c0, c1, c2, c3⟩ := HSC.out Z B hT.1
      go_simp
      rfl
    simp only [Act.put, List.setIfInBounds_toArray, List.set_cons_zero, List.set_cons_succ, List.getElem_toArray, List.getElem_cons_zero, List.getElem_cons_succ]
    refine RG.RunsIf.weak (by rfl) (by rfl) (fun Z hT => exec_load_mid 26 _ (by rfl) B 24 (by rfl) [Value.int .u64 lo, Value.int .u64 hi] _ (HSC.out Z B hT.1).2.2.1 Tryd.underlying26 rfl (by kernel_rfl)) ?_
    simp only [Act.put, List.setIfInBounds_toArray, List.set_cons_zero, List.set_cons_succ, List.getElem_toArray, List.getElem_cons_zero, List.getElem_cons_succ]
    refine RG.RunsIf.weak (v := ?_) (by rfl) (by rfl) (fun Z hT => ?_) ?_
    rotate_left
    · obtain ⟨_, _, _, c0, c1, c2, c3⟩ := HSC.out Z B hT.1
      go_simp
      rfl
    simp only [Act.put, List.setIfInBounds_toArray, List.set_cons_zero, List.set_cons_succ, List.getElem_toArray, List.getElem_cons_zero, List.getElem_cons_succ]
    refine RG.RunsIf.weak (v := ?_) (by rfl) (by rfl) (fun Z hT => ?_) ?_
    rotate_left
    · obtain ⟨_, _, _, c0, c1, c2, c3⟩ := HSC.out Z B hT.1
      go_simp
      rfl
    simp only [Act.put, List.setIfInBounds_toArray, List.set_cons_zero, List.set_cons_succ, List.getElem_toArray, List.getElem_cons_zero, List.getElem_cons_succ]
    refine RG.RunsIf.weak (v := ?_) (by rfl) (by rfl) (fun Z hT => ?_) ?_
    rotate_left
    · obtain ⟨_, _, _, c0, c1, c2, c3⟩ := HSC.out Z B hT.1
      go_simp
      rfl
    simp only [Act.put, List.setIfInBounds_toArray, List.set_cons_zero, List.set_cons_succ, List.getElem_toArray, List.getElem_cons_zero, List.getElem_cons_succ]
    refine RG.RunsIf.weak (v := ?_) (by rfl) (by rfl) (fun Z hT => ?_) ?_
    rotate_left
    · obtain ⟨_, _, _, c0, c1, c2, c3⟩ := HSC.out Z B hT.1
      go_simp
      rfl
    simp only [Act.put, List.setIfInBounds_toArray, List.set_cons_zero, List.set_cons_succ, List.getElem_toArray, List.getElem_cons_zero, List.getElem_cons_succ]
    refine RG.RunsIf.weak (v := ?_) (by rfl) (by rfl) (fun Z hT => ?_) ?_
    rotate_left
    · obtain ⟨_, _, _, c0, c1, c2, c3⟩ := HSC.out Z B hT.1
      go_simp
      rfl
    simp only [Act.put, List.setIfInBounds_toArray, List.set_cons_zero, List.set_cons_succ, List.getElem_toArray, List.getElem_cons_zero, List.getElem_cons_succ]
    refine RG.RunsIf.weak (by rfl) (by rfl) (fun Z hT => exec_load_mid 23 _ (by rfl) B 0 (by rfl) (hs.map (Value.int .u64)) _ (HSC.out Z B hT.1).1 Tryd.underlying23 rfl I8.out) ?_
    simp only [Act.put, List.setIfInBounds_toArray, List.set_cons_zero, List.set_cons_succ, List.getElem_toArray, List.getElem_cons_zero, List.getElem_cons_succ]
    refine RG.RunsIf.weak (v := ?_) (by rfl) (by rfl) (fun Z hT => ?_) ?_
    rotate_left
    · obtain ⟨_, _, _, c0, c1, c2, c3⟩ := HSC.out Z B hT.1
      go_simp
      rfl
    simp only [Act.put, List.setIfInBounds_toArray, List.set_cons_zero, List.set_cons_succ, List.getElem_toArray, List.getElem_cons_zero, List.getElem_cons_succ]
    refine RG.RunsIf.weak (v := ?_) (by rfl) (by rfl) (fun Z hT => ?_) ?_
    rotate_left
    · obtain ⟨_, _, _, c0, c1, c2, c3⟩ := HSC.out Z B hT.1
      go_simp
      rfl
    simp only [Act.put, List.setIfInBounds_toArray, List.set_cons_zero, List.set_cons_succ, List.getElem_toArray, List.getElem_cons_zero, List.getElem_cons_succ]
    refine RG.RunsIf.weak (v := ?_) (by rfl) (by rfl) (fun Z hT => ?_) ?_
    rotate_left
    · obtain ⟨_, _, _, c0, c1, c2, c3⟩ := HSC.out Z B hT.1
      go_simp
      rfl
    simp only [Act.put, List.setIfInBounds_toArray, List.set_cons_zero, List.set_cons_succ, List.getElem_toArray, List.getElem_cons_zero, List.getElem_cons_succ]
    refine RG.RunsIf.weak (v := ?_) (by rfl) (by rfl) (fun Z hT => ?_) ?_
    rotate_left
    · obtain ⟨_, _, _, c0, c1, c2, c3⟩ := HSC.out Z B hT.1
      go_simp
      rfl
    simp only [Act.put, List.setIfInBounds_toArray, List.set_cons_zero, List.set_cons_succ, List.getElem_toArray, List.getElem_cons_zero, List.getElem_cons_succ]
    refine RG.RunsIf.weak (v := ?_) (by rfl) (by rfl) (fun Z hT => ?_) ?_
    rotate_left
    · obtain ⟨_, _, _, c0, c1, c2, c3⟩ := HSC.out Z B hT.1
      go_simp
      rfl
    simp only [Act.put, List.setIfInBounds_toArray, List.set_cons_zero, List.set_cons_succ, List.getElem_toArray, List.getElem_cons_zero, List.getElem_cons_succ]
    refine RG.RunsIf.weak (v := ?_) (by rfl) (by rfl) (fun Z hT => ?_) ?_
    rotate_left
    · obtain ⟨_, _, _, c0, c1, c2, c3⟩ := HSC.out Z B hT.1
      go_simp
      rfl
    simp only [Act.put, List.setIfInBounds_toArray, List.set_cons_zero, List.set_cons_succ, List.getElem_toArray, List.getElem_cons_zero, List.getElem_cons_succ]
    refine RG.RunsIf.weak (v := ?_) (by rfl) (by rfl) (fun Z hT => ?_) ?_
    rotate_left
    · obtain ⟨_, _, _, c0, c1, c2, c3⟩ := HSC.out Z B hT.1
      go_simp
      rfl
    simp only [Act.put, List.setIfInBounds_toArray, List.set_cons_zero, List.set_cons_succ, List.getElem_toArray, List.getElem_cons_zero, List.getElem_cons_succ]
    refine RG.RunsIf.weak (v := ?_) (by rfl) (by rfl) (fun Z hT => ?_) ?_
    rotate_left
    · obtain ⟨_, _, _, c0, c1, c2, c3⟩ := HSC.out Z B hT.1
      go_simp
      rfl
    simp only [Act.put, List.setIfInBounds_toArray, List.set_cons_zero, List.set_cons_succ, List.getElem_toArray, List.getElem_cons_zero, List.getElem_cons_succ]
    refine RG.RunsIf.weak (v := ?_) (by rfl) (by rfl) (fun Z hT => ?_) ?_
    rotate_left
    · obtain ⟨_, _, _, c0, c1, c2, c3⟩ := HSC.out Z B hT.1
      go_simp
      rfl
    simp only [Act.put, List.setIfInBounds_toArray, List.set_cons_zero, List.set_cons_succ, List.getElem_toArray, List.getElem_cons_zero, List.getElem_cons_succ]
    refine RG.RunsIf.weak (v := ?_) (by rfl) (by rfl) (fun Z hT => ?_) ?_
    rotate_left
    · obtain ⟨_, _, _, c0, c1, c2, c3⟩ := HSC.out Z B hT.1
      go_simp
      rfl
    simp only [Act.put, List.setIfInBounds_toArray, List.set_cons_zero, List.set_cons_succ, List.getElem_toArray, List.getElem_cons_zero, List.getElem_cons_succ]
    exact RG.RunsIf.nil
  refine RG.wpL_step (i := 8) (by kernel_rfl) (by rfl) (by rfl) (fun K hK => ?_)
  have HK := TW.hide hK
  clear hK
  go_simp
  refine (HP1.out Y0 HT0.out.2).mono ?_
  rintro e w1 ⟨rfl, hb1⟩
  have HT1 : Hid (w1.heap[B]? = some (.cells (blockC hs ms lo hi la no) 28 (0, 0)) ∧ Below B w w1) := ⟨blk_keep HT0.out.1 hb1, below_row HT0.out.2 hb1 (by have := blk_lt HT0.out.1; omega)⟩
  refine HK.out _ _ HT1.out (fun _ => trivial) ?_
  clear HK K hb1 HT0
  refine RG.wpL_step (i := 21) (by kernel_rfl) (by rfl) (by rfl) (fun K hK => ?_)
  have HK := TW.hide hK
  clear hK
  go_simp
  refine (HP2.out w1).mono ?_
  rintro e w2 ⟨rfl, hb2⟩
  have HT2 : Hid (w2.heap[B]? = some (.cells (blockC hs ms lo hi la no) 28 (0, 0)) ∧ Below B w w2) := ⟨blk_keep HT1.out.1 hb2, below_row HT1.out.2 hb2 (by have := blk_lt HT1.out.1; omega)⟩
  refine HK.out _ _ HT2.out (fun _ => trivial) ?_
  clear HK K hb2 HT1
  have q1 := Q1.out
  refine RG.wpL_step (i := 22) (by kernel_rfl) (by rfl) (by rfl) (fun K hK => ?_)
  have HK := TW.hide hK
  clear hK
  go_simp
  refine HK.out _ _ HT2.out (fun _ => trivial) ?_
  clear HK K
  refine RG.wpL_step (i := 23) (by kernel_rfl) (by rfl) (by rfl) (fun K hK => ?_)
  have HK := TW.hide hK
  clear hK
  go_simp
  refine HK.out _ _ HT2.out (fun _ => trivial) ?_
  clear HK K
  refine RG.wpL_done (by kernel_rfl) ?_ _
  refine NoPanic.normal ?_
  go_wp2
  go_ret
  exact ⟨rfl, HT2.out.2⟩
set_option maxRecDepth 100000 in
set_option maxHeartbeats 4000000 in
theorem blocksWalk (hs ms : List Int) (lo hi : Int) (la no : Bool) (w : World) (ti : Tab w 0 .u64 ivL) (to : Tab w 1 .u8 ordL) (tp : Tab w 2 .u8 plL) (hl : hs.length = 8) (hm : ms.length = 16) (hw : Ws hs) (hM : Ws ms) (wl : W lo) (wh : W hi) :
    Calls Tryd.prog 4 #[.agg (blockC hs ms lo hi la no)] w fun e w' => e = .returned (.bool true) ∧ Below w.heap.size w w' := by
  have i8 : (Tryd.prog.info? 23).map (·.size) = some (hs.map (Value.int .u64)).length := by rw [List.length_map, hl]; kernel_rfl
  have i16 : (Tryd.prog.info? 24).map (·.size) = some (ms.map (Value.int .u64)).length := by rw [List.length_map, hm]; kernel_rfl
  have q1 := fun W => eq8 W (fL hs ms lo hi la no) (fL hs ms lo hi la no) (fL_length hs ms lo hi la no) (fL_length hs ms lo hi la no)
  simp only [decide_true] at q1
  have hsc := fun Z B => block_cell hs ms lo hi la no hl hm Z B
  have hp1 := fun Y (hb : Below w.heap.size w Y) => fOk hs ms lo hi la no Y (ti.below hb) (to.below hb) (tp.below hb) hl hm hw hM wl wh
  have hp2 := fun Y => rfOk hs ms lo hi la no Y hl hm hw hM wl wh
  have I8 := TW.hide i8
  have I16 := TW.hide i16
  have Q1 := TW.hide q1
  have HSC := TW.hide hsc
  have HP1 := TW.hide hp1
  have HP2 := TW.hide hp2
  clear i8 i16 q1 hsc hp1 hp2
  have hb := ((Below.refl w.heap.size w).alloc (Nat.le_refl _) (.cells (blockC hs ms lo hi la no) 28))
  have n0 := (heap_new w (.cells (blockC hs ms lo hi la no) 28))
  go_enter Tryd.func4, Tryd.ntmps4
  refine wp_seq_k fun K hK => ?_
  have HK := TW.hide hK
  clear hK
  go_wp2
  refine HK.out _ _ ?_
  clear HK K
  change Code.wp _ _ _ _ (w.alloc (.cells (blockC hs ms lo hi la no) 28))
  generalize hWW : w.alloc (.cells (blockC hs ms lo hi la no) 28) = W at hb n0 ⊢
  have hW : W.heap.size = w.heap.size + 1 := by rw [← hWW]; simp
  clear hWW
  generalize hB : w.heap.size = B at *
  have HT : Hid (W.heap[B]? = some (.cells (blockC hs ms lo hi la no) 28 (0, 0)) ∧ Below B w W) := ⟨n0, hb⟩
  have hq1 := hW
  clear n0 hb hW hq1
  refine wp_seq ?_
  refine wp_region_noPanic ?_
  refine RG.wp_region_L (fun Z => True) (fun Z => Z.heap[B]? = some (.cells (blockC hs ms lo hi la no) 28 (0, 0)) ∧ Below B w Z) [] (by kernel_rfl) ?_
  have HT0 : Hid (W.drew.heap[B]? = some (.cells (blockC hs ms lo hi la no) 28 (0, 0)) ∧ Below B w W.drew) := ⟨HT.out.1, below_drewN HT.out.2 1⟩
  clear HT
  generalize W.drew = Y0 at *
  refine RG.wpL_take (fuel := 4) (a' := ?A) [0, 1, 2, 3, 4, 5, 6, 7, 8, 9, 11, 12, 13, 14, 15, 16, 17, 18, 19, 20, 21, 22, 23, 24] (by kernel_rfl) (by kernel_rfl) (fun _ _ _ _ _ h => h) HT0.out (fun _ => trivial) ?r ?_
  case r =>
    refine RG.RunsIf.weak (v := ?_) (by rfl) (by rfl) (fun Z hT => ?_) ?_
    rotate_left
    · obtain ⟨_, _, _, c0, c1, c2, c3⟩ := HSC.out Z B hT.1
      go_simp
      rfl
    simp only [Act.put, List.setIfInBounds_toArray, List.set_cons_zero, List.set_cons_succ, List.getElem_toArray, List.getElem_cons_zero, List.getElem_cons_succ]
    refine RG.RunsIf.weak (by rfl) (by rfl) (fun Z hT => exec_load_mid 23 _ (by rfl) B 0 (by rfl) (hs.map (Value.int .u64)) _ (HSC.out Z B hT.1).1 Tryd.underlying23 rfl I8.out) ?_
    simp only [Act.put, List.setIfInBounds_toArray, List.set_cons_zero, List.set_cons_succ, List.getElem_toArray, List.getElem_cons_zero, List.getElem_cons_succ]
    refine RG.RunsIf.weak (v := ?_) (by rfl) (by rfl) (fun Z hT => ?_) ?_
    rotate_left
    · obtain ⟨_, _, _, c0, c1, c2, c3⟩ := HSC.out Z B hT.1
      go_simp
      rfl
    simp only [Act.put, List.setIfInBounds_toArray, List.set_cons_zero, List.set_cons_succ, List.getElem_toArray, List.getElem_cons_zero, List.getElem_cons_succ]
    refine RG.RunsIf.weak (by rfl) (by rfl) (fun Z hT => exec_load_mid 24 _ (by rfl) B 8 (by rfl) (ms.map (Value.int .u64)) _ (HSC.out Z B hT.1).2.1 Tryd.underlying24 rfl I16.out) ?_
    simp only [Act.put, List.setIfInBounds_toArray, List.set_cons_zero, List.set_cons_succ, List.getElem_toArray, List.getElem_cons_zero, List.getElem_cons_succ]
    refine RG.RunsIf.weak (v := ?_) (by rfl) (by rfl) (fun Z hT => ?_) ?_
    rotate_left
    · obtain ⟨_, _, _, c0, c1, c2, c3⟩ := HSC.out Z B hT.1
      go_simp
      rfl
    simp only [Act.put, List.setIfInBounds_toArray, List.set_cons_zero, List.set_cons_succ, List.getElem_toArray, List.getElem_cons_zero, List.getElem_cons_succ]
    refine RG.RunsIf.weak (by rfl) (by rfl) (fun Z hT => exec_load_mid 26 _ (by rfl) B 24 (by rfl) [Value.int .u64 lo, Value.int .u64 hi] _ (HSC.out Z B hT.1).2.2.1 Tryd.underlying26 rfl (by kernel_rfl)) ?_
    simp only [Act.put, List.setIfInBounds_toArray, List.set_cons_zero, List.set_cons_succ, List.getElem_toArray, List.getElem_cons_zero, List.getElem_cons_succ]
    refine RG.RunsIf.weak (v := ?_) (by rfl) (by rfl) (fun Z hT => ?_) ?_
    rotate_left
    · obtain ⟨_, _, _, c0, c1, c2, c3⟩ := HSC.out Z B hT.1
      go_simp
      rfl
    simp only [Act.put, List.setIfInBounds_toArray, List.set_cons_zero, List.set_cons_succ, List.getElem_toArray, List.getElem_cons_zero, List.getElem_cons_succ]
    refine RG.RunsIf.weak (v := ?_) (by rfl) (by rfl) (fun Z hT => ?_) ?_
    rotate_left
    · obtain ⟨_, _, _, c0, c1, c2, c3⟩ := HSC.out Z B hT.1
      go_simp
      rfl
    simp only [Act.put, List.setIfInBounds_toArray, List.set_cons_zero, List.set_cons_succ, List.getElem_toArray, List.getElem_cons_zero, List.getElem_cons_succ]
    refine RG.RunsIf.weak (v := ?_) (by rfl) (by rfl) (fun Z hT => ?_) ?_
    rotate_left
    · obtain ⟨_, _, _, c0, c1, c2, c3⟩ := HSC.out Z B hT.1
      go_simp
      rfl
    simp only [Act.put, List.setIfInBounds_toArray, List.set_cons_zero, List.set_cons_succ, List.getElem_toArray, List.getElem_cons_zero, List.getElem_cons_succ]
    refine RG.RunsIf.weak (v := ?_) (by rfl) (by rfl) (fun Z hT => ?_) ?_
    rotate_left
    · obtain ⟨_, _, _, c0, c1, c2, c3⟩ := HSC.out Z B hT.1
      go_simp
      rfl
    simp only [Act.put, List.setIfInBounds_toArray, List.set_cons_zero, List.set_cons_succ, List.getElem_toArray, List.getElem_cons_zero, List.getElem_cons_succ]
    refine RG.RunsIf.weak (v := ?_) (by rfl) (by rfl) (fun Z hT => ?_) ?_
    rotate_left
    · obtain ⟨_, _, _, c0, c1, c2, c3⟩ := HSC.out Z B hT.1
      go_simp
      rfl
    simp only [Act.put, List.setIfInBounds_toArray, List.set_cons_zero, List.set_cons_succ, List.getElem_toArray, List.getElem_cons_zero, List.getElem_cons_succ]
    refine RG.RunsIf.weak (by rfl) (by rfl) (fun Z hT => exec_load_mid 23 _ (by rfl) B 0 (by rfl) (hs.map (Value.int .u64)) _ (HSC.out Z B hT.1).1 Tryd.underlying23 rfl I8.out) ?_
    simp only [Act.put, List.setIfInBounds_toArray, List.set_cons_zero, List.set_cons_succ, List.getElem_toArray, List.getElem_cons_zero, List.getElem_cons_succ]
    refine RG.RunsIf.weak (v := ?_) (by rfl) (by rfl) (fun Z hT => ?_) ?_
    rotate_left
    · obtain ⟨_, _, _, c0, c1, c2, c3⟩ := HSC.out Z B hT.1
      go_simp
      rfl
    simp only [Act.put, List.setIfInBounds_toArray, List.set_cons_zero, List.set_cons_succ, List.getElem_toArray, List.getElem_cons_zero, List.getElem_cons_succ]
    refine RG.RunsIf.weak (by rfl) (by rfl) (fun Z hT => exec_load_mid 24 _ (by rfl) B 8 (by rfl) (ms.map (Value.int .u64)) _ (HSC.out Z B hT.1).2.1 Tryd.underlying24 rfl I16.out) ?_
    simp only [Act.put, List.setIfInBounds_toArray, List.set_cons_zero, List.set_cons_succ, List.getElem_toArray, List.getElem_cons_zero, List.getElem_cons_succ]
    refine RG.RunsIf.weak (v := ?_) (by rfl) (by rfl) (fun Z hT => ?_) ?_
    rotate_left
    · obtain ⟨_, _, _, c0, c1, c2, c3⟩ := HSC.out Z B hT.1
      go_simp
      rfl
    simp only [Act.put, List.setIfInBounds_toArray, List.set_cons_zero, List.set_cons_succ, List.getElem_toArray, List.getElem_cons_zero, List.getElem_cons_succ]
    refine RG.RunsIf.weak (v := ?_) (by rfl) (by rfl) (fun Z hT => ?_) ?_
    rotate_left
    · obtain ⟨_, _, _, c0, c1, c2, c3⟩ := HSC.out Z B hT.1
      go_simp
      rfl
    simp only [Act.put, List.setIfInBounds_toArray, List.set_cons_zero, List.set_cons_succ, List.getElem_toArray, List.getElem_cons_zero, List.getElem_cons_succ]
    refine RG.RunsIf.weak (v := ?_) (by rfl) (by rfl) (fun Z hT => ?_) ?_
    rotate_left
    · obtain ⟨_, _, _, c0, c1, c2, c3⟩ := HSC.out Z B hT.1
      go_simp
      rfl
    simp only [Act.put, List.setIfInBounds_toArray, List.set_cons_zero, List.set_cons_succ, List.getElem_toArray, List.getElem_cons_zero, List.getElem_cons_succ]
    refine RG.RunsIf.weak (v := ?_) (by rfl) (by rfl) (fun Z hT => ?_) ?_
    rotate_left
    · obtain ⟨_, _, _, c0, c1, c2, c3⟩ := HSC.out Z B hT.1
      go_simp
      rfl
    simp only [Act.put, List.setIfInBounds_toArray, List.set_cons_zero, List.set_cons_succ, List.getElem_toArray, List.getElem_cons_zero, List.getElem_cons_succ]
    refine RG.RunsIf.weak (v := ?_) (by rfl) (by rfl) (fun Z hT => ?_) ?_
    rotate_left
    · obtain ⟨_, _, _, c0, c1, c2, c3⟩ := HSC.out Z B hT.1
      go_simp
      rfl
    simp only [Act.put, List.setIfInBounds_toArray, List.set_cons_zero, List.set_cons_succ, List.getElem_toArray, List.getElem_cons_zero, List.getElem_cons_succ]
    refine RG.RunsIf.weak (v := ?_) (by rfl) (by rfl) (fun Z hT => ?_) ?_
    rotate_left
    · obtain ⟨_, _, _, c0, c1, c2, c3⟩ := HSC.out Z B hT.1
      go_simp
      rfl
    simp only [Act.put, List.setIfInBounds_toArray, List.set_cons_zero, List.set_cons_succ, List.getElem_toArray, List.getElem_cons_zero, List.getElem_cons_succ]
    refine RG.RunsIf.weak (v := ?_) (by rfl) (by rfl) (fun Z hT => ?_) ?_
    rotate_left
    · obtain ⟨_, _, _, c0, c1, c2, c3⟩ := HSC.out Z B hT.1
      go_simp
      rfl
    simp only [Act.put, List.setIfInBounds_toArray, List.set_cons_zero, List.set_cons_succ, List.getElem_toArray, List.getElem_cons_zero, List.getElem_cons_succ]
    refine RG.RunsIf.weak (v := ?_) (by rfl) (by rfl) (fun Z hT => ?_) ?_
    rotate_left
    · obtain ⟨_, _, _, c0, c1, c2, c3⟩ := HSC.out Z B hT.1
      go_simp
      rfl
    simp only [Act.put, List.setIfInBounds_toArray, List.set_cons_zero, List.set_cons_succ, List.getElem_toArray, List.getElem_cons_zero, List.getElem_cons_succ]
    refine RG.RunsIf.weak (v := ?_) (by rfl) (by rfl) (fun Z hT => ?_) ?_
    rotate_left
    · obtain ⟨_, _, _, c0, c1, c2, c3⟩ := HSC.out Z B hT.1
      go_simp
      rfl
    simp only [Act.put, List.setIfInBounds_toArray, List.set_cons_zero, List.set_cons_succ, List.getElem_toArray, List.getElem_cons_zero, List.getElem_cons_succ]
    refine RG.RunsIf.weak (v := ?_) (by rfl) (by rfl) (fun Z hT => ?_) ?_
    rotate_left
    · obtain ⟨_, _, _, c0, c1, c2, c3⟩ := HSC.out Z B hT.1
      go_simp
      rfl
    simp only [Act.put, List.setIfInBounds_toArray, List.set_cons_zero, List.set_cons_succ, List.getElem_toArray, List.getElem_cons_zero, List.getElem_cons_succ]
    exact RG.RunsIf.nil
  refine RG.wpL_step (i := 10) (by kernel_rfl) (by rfl) (by rfl) (fun K hK => ?_)
  have HK := TW.hide hK
  clear hK
  go_simp
  refine (HP1.out Y0 HT0.out.2).mono ?_
  rintro e w1 ⟨rfl, hb1⟩
  have HT1 : Hid (w1.heap[B]? = some (.cells (blockC hs ms lo hi la no) 28 (0, 0)) ∧ Below B w w1) := ⟨blk_keep HT0.out.1 hb1, below_row HT0.out.2 hb1 (by have := blk_lt HT0.out.1; omega)⟩
  refine HK.out _ _ HT1.out (fun _ => trivial) ?_
  clear HK K hb1 HT0
  refine RG.wpL_step (i := 25) (by kernel_rfl) (by rfl) (by rfl) (fun K hK => ?_)
  have HK := TW.hide hK
  clear hK
  go_simp
  refine (HP2.out w1).mono ?_
  rintro e w2 ⟨rfl, hb2⟩
  have HT2 : Hid (w2.heap[B]? = some (.cells (blockC hs ms lo hi la no) 28 (0, 0)) ∧ Below B w w2) := ⟨blk_keep HT1.out.1 hb2, below_row HT1.out.2 hb2 (by have := blk_lt HT1.out.1; omega)⟩
  refine HK.out _ _ HT2.out (fun _ => trivial) ?_
  clear HK K hb2 HT1
  have q1 := Q1.out
  refine RG.wpL_step (i := 26) (by kernel_rfl) (by rfl) (by rfl) (fun K hK => ?_)
  have HK := TW.hide hK
  clear hK
  go_simp
  refine HK.out _ _ HT2.out (fun _ => trivial) ?_
  clear HK K
  refine RG.wpL_step (i := 27) (by kernel_rfl) (by rfl) (by rfl) (fun K hK => ?_)
  have HK := TW.hide hK
  clear hK
  go_simp
  refine HK.out _ _ HT2.out (fun _ => trivial) ?_
  clear HK K
  refine RG.wpL_done (by kernel_rfl) ?_ _
  refine NoPanic.normal ?_
  go_wp2
  go_ret
  exact ⟨rfl, HT2.out.2⟩
end MX
end Go.Proofs.YtkilackhomhpgabDoor
