/-
  settle, Read's deferred function, and Read of whatever line.
-/
import Derived.Test.YteakoajkmcbilabDoorRpB
import Derived.Test.YteakoajkmcbilabDoorPair
import Derived.Deep.MidRow
import Derived.Defers
import Derived.Recover
namespace Go.Proofs.YteakoajkmcbilabDoor
open Go.RowKit Go.Shelf
set_option linter.unusedVariables false
set_option linter.unusedSimpArgs false
namespace LW
open Words Txt
theorem pcP_at (p : Pm) (S T : Value) (f : Nat) (h1 : 1 ≤ f) (h9 : f ≤ 9) : (pcP p S T)[f - 1]? = some (nk f (p.nv f)) := by
  have : f = 1 ∨ f = 2 ∨ f = 3 ∨ f = 4 ∨ f = 5 ∨ f = 6 ∨ f = 7 ∨ f = 8 ∨ f = 9 := by omega
  rcases this with rfl | rfl | rfl | rfl | rfl | rfl | rfl | rfl | rfl <;> rfl
/-- The parameters that a line says. -/
theorem Lr.said {w : World} {g : Nat} {kd : Int} {st : Rs} {cs : Array Value} {a1 a2 : Option Addr} {c1 c2 : Nat} (h : Lr w g kd st cs a1 a2 c1 c2) :
    w.rangeAt g 1 (pcP st.q (.slice a1 st.s.length c1) (.slice a2 st.t.length c2)).toList := fun j v hv => by
  rw [Array.getElem?_toList] at hv
  refine h.lc.cell ?_
  have hj : j < 11 := by
    rcases Nat.lt_or_ge j 11 with h' | h'
    · exact h'
    · rw [Array.getElem?_eq_none (show (pcP st.q (.slice a1 st.s.length c1) (.slice a2 st.t.length c2)).size ≤ j from h')] at hv; cases hv
  by_cases h9 : j < 9
  · have e := pcP_at st.q (.slice a1 st.s.length c1) (.slice a2 st.t.length c2) (j + 1) (by omega) (by omega)
    rw [Nat.add_sub_cancel] at e
    rw [e] at hv
    rw [Nat.add_comm, h.num (j + 1) (by omega) (by omega), ← hv]
  · have : j = 9 ∨ j = 10 := by omega
    rcases this with rfl | rfl
    · rw [show 1 + 9 = 10 by omega, h.salt]; exact hv
    · rw [show 1 + 10 = 11 by omega, h.pers]; exact hv
theorem Pn.setRow {w : World} {B : Nat} {a : Option Addr} {c : Nat} {s : List Int} (h : Pn w B a c s) {g : Nat} (hg : g < B) (cs : Array Value) : Pn (w.setRow g cs) B a c s := by
  refine ⟨⟨?_, h.nil, h.len, h.cap, h.byt⟩, h.far⟩
  rcases h.row with h0 | ⟨b, off, rfl, hc⟩
  · exact .inl h0
  · refine .inr ⟨b, off, rfl, fun j hj => ?_⟩
    have hf := h.far _ rfl
    have e : (w.setRow g cs).heap[b]? = w.heap[b]? := setRow_other _ _ _ _ (by simp only at hf; omega)
    have := hc j hj
    unfold World.cell? at this ⊢
    simp only [e]
    exact this
theorem Pn.newRow {w : World} {B : Nat} {a : Option Addr} {c : Nat} {s : List Int} (h : Pn w B a c s) (o : Obj) (cs : Array Value) : Pn ((w.alloc o).setRow w.heap.size cs) B a c s :=
  h.below (below_setRow ((Below.refl _ _).alloc (Nat.le_refl _) _) (Nat.le_refl _))
theorem val_mid {a : Act} {w : World} {o : Oper} {x : Operand} {t : TypeId} {b i : Nat} {v : Value} (ho : o.op = .load t x) (hx : a.eval x = .pointer (some ⟨b, i, none⟩)) (hl : (Instr.loadAt t (.pointer (some ⟨b, i, none⟩))).run Tryd.prog w = .ok v w) :
    (execOp a.eval o).run Tryd.prog w = .ok (.value v) w := by
  simp only [execOp, ho, hx, Sem.run_bind, hl, Result.andThen_ok, Sem.run_pure]
set_option maxRecDepth 100000 in
set_option maxHeartbeats 4000000 in
theorem settleOk (g : Nat) (kd : Int) (st : Rs) (p : Pm) (S T : List Int) (ep : st.q = p) (eS : st.s = S) (eT : st.t = T) (hp : p.Ok) (lS : S.length ≤ 256) (lT : T.length ≤ 256) (w : World) (hG : Lrs w g kd st) (hww : st.ww = 0) (hck : p.ck kd S.length T.length = 0) :
    Calls Tryd.prog 31 #[.pointer (some ⟨g, 0, none⟩)] w fun e w' => ∃ b1 d1 b2 d2, e = .returned (.agg (pcP p (.slice b1 (tr S).length d1) (.slice b2 (tr T).length d2))) ∧ Pn w' w.heap.size b1 d1 (tr S) ∧ Pn w' w.heap.size b2 d2 (tr T) ∧ Below w.heap.size w w' := by
  obtain ⟨cs, a1, a2, c1, c2, hg⟩ := hG
  have bS : Pb w a1 c1 S := by rw [← eS]; exact hg.s.toPb
  have bT : Pb w a2 c2 T := by rw [← eT]; exact hg.t.toPb
  have hsaid := hg.said
  rw [ep, eS, eT] at hsaid
  have HNO : Hid (∀ W : World, Below w.heap.size w W → Calls Tryd.prog 17 #[.int .i64 kd, .agg (pcP p (.slice a1 S.length c1) (.slice a2 T.length c2))] W fun e w' => ∃ b1 d1 b2 d2, e = .returned (.tuple #[.agg (pcP p (.slice b1 (tr S).length d1) (.slice b2 (tr T).length d2)), .int .i64 0]) ∧ Pn w' W.heap.size b1 d1 (tr S) ∧ Pn w' W.heap.size b2 d2 (tr T) ∧ Below W.heap.size W w') := fun W hb => by
    have hs := tr_le S
    have ht := tr_le T
    refine (normalP kd p hp a1 a2 c1 c2 S T W (bS.below hb) (bT.below hb)).mono ?_
    rintro e w' ⟨x, y, rfl, ox, oy, hb'⟩
    simp only [hck, nP, nS, if_true] at ox oy ⊢
    obtain ⟨b1, d1, rfl, q1⟩ := Pn.own ox (by omega) (Byt.tr bS.byt)
    obtain ⟨b2, d2, rfl, q2⟩ := Pn.own oy (by omega) (Byt.tr bT.byt)
    exact ⟨b1, d1, b2, d2, rfl, q1, q2, hb'⟩
  have HCK : Hid (∀ Z : World, Below w.heap.size w Z → Z.cell? ⟨g, 0, none⟩ = some (.int .i64 kd)) := fun Z hZ => (hg.lc.below hZ).cell hg.kind
  have HCS : Hid (∀ Z : World, Below w.heap.size w Z → Z.rangeAt g 1 (pcP p (.slice a1 S.length c1) (.slice a2 T.length c2)).toList) := fun Z hZ j v hv => by
    have h1 := hsaid j v hv
    rw [hZ.cell (lt_of_cell h1)]; exact h1
  have c25 := hg.lc.cell hg.ww
  rw [hww] at c25
  clear hg bS bT hck hp hsaid hww ep eS eT st
  generalize tr S = S' at *
  generalize tr T = T' at *
  generalize S.length = sl at *
  generalize T.length = tl at *
  have b0 := (Below.refl w.heap.size w).alloc (Nat.le_refl _) (.cells #[.int .i64 0, .int .i64 0, .int .i64 0, .int .i64 0, .int .u32 0, .int .u64 0, .int .u32 0, .int .i64 0, .int .i64 0, .slice none 0 0, .slice none 0 0] 26)
  have n0 := heap_alloc_new w (.cells #[.int .i64 0, .int .i64 0, .int .i64 0, .int .i64 0, .int .u32 0, .int .u64 0, .int .u32 0, .int .i64 0, .int .i64 0, .slice none 0 0, .slice none 0 0] 26)
  have c25' : (w.alloc (.cells #[.int .i64 0, .int .i64 0, .int .i64 0, .int .i64 0, .int .u32 0, .int .u64 0, .int .u32 0, .int .i64 0, .int .i64 0, .slice none 0 0, .slice none 0 0] 26)).cell? ⟨g, 25, none⟩ = some (.int .i64 0) := by rw [b0.cell (lt_of_cell c25)]; exact c25
  clear c25
  go_enter Tryd.func31, Tryd.ntmps31
  refine wp_seq_k fun KK hK => ?_
  have HK := TW.hide hK
  clear hK
  go_wp2
  refine HK.out _ _ ?_
  clear HK KK
  generalize w.alloc _ = X at *
  generalize hB : w.heap.size = B at *
  have B0 := TW.hide b0
  have N0 := TW.hide n0
  clear b0 n0
  refine wp_seq_k fun KK hK => ?_
  have HK := TW.hide hK
  clear hK
  go_wp2_with fail
  refine HK.out _ _ ?_
  clear HK KK c25'
  have BX := TW.hide (Below.refl X.heap.size X)
  refine wp_seq_k fun KK hK => ?_
  have HKK := TW.hide hK
  clear hK
  refine wp_region_noPanic ?_
  refine RG.wp_region_L (fun Z => True) (fun Z => Below X.heap.size X Z) [] (by kernel_rfl) ?_
  refine RG.wpL_any fun Ya hY => ?_
  have HTa : Hid (Below X.heap.size X Ya) := by rw [hY]; exact below_drewN BX.out 1
  clear hY
  refine RG.wpL_take (fuel := 7) (a' := ?Aa) [0, 1, 2, 3, 4, 5, 6, 7] (by kernel_rfl) (by kernel_rfl) (fun _ _ _ _ _ h => h) HTa.out (fun _ => trivial) ?ra ?_
  case ra =>
    refine RG.RunsIf.weak (v := ?_) (by rfl) (by rfl) (fun Z hT => ?_) ?_
    rotate_left
    · go_simp
      rfl
    simp only [Act.put, List.setIfInBounds_toArray, List.set_cons_zero, List.set_cons_succ, List.getElem_toArray, List.getElem_cons_zero, List.getElem_cons_succ]
    refine RG.RunsIf.weak (v := ?_) (by rfl) (by rfl) (fun Z hT => ?_) ?_
    rotate_left
    · go_simp
      rfl
    simp only [Act.put, List.setIfInBounds_toArray, List.set_cons_zero, List.set_cons_succ, List.getElem_toArray, List.getElem_cons_zero, List.getElem_cons_succ]
    refine RG.RunsIf.weak (v := ?_) (by rfl) (by rfl) (fun Z hT => ?_) ?_
    rotate_left
    · go_simp
      rfl
    simp only [Act.put, List.setIfInBounds_toArray, List.set_cons_zero, List.set_cons_succ, List.getElem_toArray, List.getElem_cons_zero, List.getElem_cons_succ]
    refine RG.RunsIf.weak (v := .int .i64 kd) (by rfl) (by rfl) (fun Z hT => ?_) ?_
    · have cz := HCK.out Z (below_row B0.out hT (by have := blk_lt N0.out; omega))
      go_simp
    simp only [Act.put, List.setIfInBounds_toArray, List.set_cons_zero, List.set_cons_succ, List.getElem_toArray, List.getElem_cons_zero, List.getElem_cons_succ]
    refine RG.RunsIf.weak (v := ?_) (by rfl) (by rfl) (fun Z hT => ?_) ?_
    rotate_left
    · go_simp
      rfl
    simp only [Act.put, List.setIfInBounds_toArray, List.set_cons_zero, List.set_cons_succ, List.getElem_toArray, List.getElem_cons_zero, List.getElem_cons_succ]
    refine RG.RunsIf.weak (v := ?_) (by rfl) (by rfl) (fun Z hT => ?_) ?_
    rotate_left
    · go_simp
      rfl
    simp only [Act.put, List.setIfInBounds_toArray, List.set_cons_zero, List.set_cons_succ, List.getElem_toArray, List.getElem_cons_zero, List.getElem_cons_succ]
    refine RG.RunsIf.weak (v := ?_) (by rfl) (by rfl) (fun Z hT => ?_) ?_
    rotate_left
    · go_simp
      rfl
    simp only [Act.put, List.setIfInBounds_toArray, List.set_cons_zero, List.set_cons_succ, List.getElem_toArray, List.getElem_cons_zero, List.getElem_cons_succ]
    refine RG.RunsIf.weak (v := .agg (pcP p (.slice a1 sl c1) (.slice a2 tl c2))) (by rfl) (by rfl) (fun Z hT => val_mid (t := 26) (x := .tmp 26) (b := g) (i := 1) (by rfl) (by rfl) (run_loadAt_mid Z g 1 26 _ _ (HCS.out Z (below_row B0.out hT (by have := blk_lt N0.out; omega))) Tryd.underlying26 rfl (by kernel_rfl))) ?_
    simp only [Act.put, List.setIfInBounds_toArray, List.set_cons_zero, List.set_cons_succ, List.getElem_toArray, List.getElem_cons_zero, List.getElem_cons_succ]
    exact RG.RunsIf.nil
  refine RG.wpL_pair (i := 8) (j := 12) (by kernel_rfl) (by rfl) (by rfl) (by rfl) (by rfl) (fun KX hK => ?_) (fun KX hK => ?_)
  · have HK := TW.hide hK
    clear hK
    go_simp
    refine (HNO.out _ (below_row B0.out HTa.out (by have := blk_lt N0.out; omega))).mono ?_
    rintro e W1 ⟨b1, d1, b2, d2, rfl, hq1, hq2, hb1⟩
    have Q1 := TW.hide ((hq1.newRow (.cells #[.int .i64 0, .int .i64 0, .int .i64 0, .int .i64 0, .int .u32 0, .int .u64 0, .int .u32 0, .int .i64 0, .int .i64 0, .slice none 0 0, .slice none 0 0] 26) (pcP p (.slice b1 S'.length d1) (.slice b2 T'.length d2))).mono (B' := B + 1) (by have h1 := HTa.out.size; have h2 := blk_lt N0.out; omega))
    have Q2 := TW.hide ((hq2.newRow (.cells #[.int .i64 0, .int .i64 0, .int .i64 0, .int .i64 0, .int .u32 0, .int .u64 0, .int .u32 0, .int .i64 0, .int .i64 0, .slice none 0 0, .slice none 0 0] 26) (pcP p (.slice b1 S'.length d1) (.slice b2 T'.length d2))).mono (B' := B + 1) (by have h1 := HTa.out.size; have h2 := blk_lt N0.out; omega))
    clear hq1 hq2
    have Hc : Hid (Below X.heap.size X W1) := below_row HTa.out hb1 HTa.out.size
    refine HK.out _ _ Hc.out (fun _ => trivial) ?_
    clear HK KX hb1
    try simp only [Act.put, List.setIfInBounds_toArray, List.set_cons_zero, List.set_cons_succ, List.getElem_toArray, List.getElem_cons_zero, List.getElem_cons_succ]
    refine RG.wpL_take (fuel := 3) (a' := ?Aap) [9, 10, 11] (by kernel_rfl) (by kernel_rfl) (fun _ _ _ _ _ h => h) Hc.out (fun _ => trivial) ?rap ?_
    case rap =>
      refine RG.RunsIf.weak (v := ?_) (by rfl) (by rfl) (fun Z hT => ?_) ?_
      rotate_left
      · go_simp
        rfl
      simp only [Act.put, List.setIfInBounds_toArray, List.set_cons_zero, List.set_cons_succ, List.getElem_toArray, List.getElem_cons_zero, List.getElem_cons_succ]
      refine RG.RunsIf.weak (v := ?_) (by rfl) (by rfl) (fun Z hT => ?_) ?_
      rotate_left
      · go_simp
        rfl
      simp only [Act.put, List.setIfInBounds_toArray, List.set_cons_zero, List.set_cons_succ, List.getElem_toArray, List.getElem_cons_zero, List.getElem_cons_succ]
      refine RG.RunsIf.weak (v := ?_) (by rfl) (by rfl) (fun Z hT => ?_) ?_
      rotate_left
      · go_simp
        rfl
      simp only [Act.put, List.setIfInBounds_toArray, List.set_cons_zero, List.set_cons_succ, List.getElem_toArray, List.getElem_cons_zero, List.getElem_cons_succ]
      exact RG.RunsIf.nil
    have hgB : X.heap.size ≤ W1.heap.size := Hc.out.size
    have Ha : Hid (Below X.heap.size X (W1.alloc (.cells #[.int .i64 0, .int .i64 0, .int .i64 0, .int .i64 0, .int .u32 0, .int .u64 0, .int .u32 0, .int .i64 0, .int .i64 0, .slice none 0 0, .slice none 0 0] 26))) := Hc.out.alloc hgB _
    have Na := TW.hide (heap_alloc_new W1 (.cells #[.int .i64 0, .int .i64 0, .int .i64 0, .int .i64 0, .int .u32 0, .int .u64 0, .int .u32 0, .int .i64 0, .int .i64 0, .slice none 0 0, .slice none 0 0] 26))
    refine RG.wpL_step (i := 12) (by kernel_rfl) (by rfl) (by rfl) (fun KX hK => ?_)
    have HK := TW.hide hK
    clear hK
    go_simp
    refine HK.out _ _ Ha.out (fun _ => trivial) ?_
    clear HK KX Hc
    generalize W1.alloc (.cells #[.int .i64 0, .int .i64 0, .int .i64 0, .int .i64 0, .int .u32 0, .int .u64 0, .int .u32 0, .int .i64 0, .int .i64 0, .slice none 0 0, .slice none 0 0] 26) = X1 at *
    generalize W1.heap.size = g at *
    have hgl1 : g < X1.heap.size := blk_lt Na.out
    have T51 : Hid (Below X.heap.size X (X1.setRow g (pcP p (.slice b1 S'.length d1) (.slice b2 T'.length d2)))) := below_setRow Ha.out hgB
    have N51 := TW.hide (setRow_heap _ _ _ (pcP p (.slice b1 S'.length d1) (.slice b2 T'.length d2)) _ _ Na.out)
    refine RG.wpL_step (i := 13) (by kernel_rfl) (by rfl) (by rfl) (fun KX hK => ?_)
    have HK := TW.hide hK
    clear hK
    refine wp_store_row 26 _ _ (by rfl) g (pcP p (.slice b1 S'.length d1) (.slice b2 T'.length d2)) (by rfl) (by rfl) 26 _ Na.out (info31 _ _ _) (pc_size Pm.zero _ _ _ _ _) (pc_one _ _ _ _ _ _ _) ?_
    simp only [Act.put, List.setIfInBounds_toArray, List.set_cons_zero, List.set_cons_succ, List.getElem_toArray, List.getElem_cons_zero, List.getElem_cons_succ]
    refine HK.out _ _ T51.out (fun _ => trivial) ?_
    clear HK KX Ha Na
    generalize X1.setRow g (pcP p (.slice b1 S'.length d1) (.slice b2 T'.length d2)) = Z1 at *
    refine RG.wpL_step (i := 14) (by kernel_rfl) (by rfl) (by rfl) (fun KX hK => ?_)
    have HK := TW.hide hK
    clear hK
    go_simp
    refine HK.out _ _ T51.out (fun _ => trivial) ?_
    clear HK KX
    refine RG.wpL_done (by kernel_rfl) ?_ _
    refine NoPanic.normal ?_
    refine HKK.out _ _ ?_
    clear HKK KK
    have NBx := TW.hide (blk_keep N0.out T51.out)
    have BBx : Hid (Below B w Z1) := below_row B0.out T51.out (by have := blk_lt N0.out; omega)
    clear T51 HNO HCK HCS
    go_wp2_with (first | (refine wpList_load_row (by rfl) 26 _ (by rfl) g (by rfl) 26 (pcP p (.slice b1 S'.length d1) (.slice b2 T'.length d2)) (0, 0) _ N51.out Tryd.underlying26 rfl (info31 _ _ _) ?_) | (refine wpList_store_row (by rfl) 26 _ _ (by rfl) B (pcP p (.slice b1 S'.length d1) (.slice b2 T'.length d2)) (by rfl) (by rfl) 26 _ NBx.out (info31 _ _ _) (pc_size Pm.zero _ _ _ _ _) (pc_one _ _ _ _ _ _ _) ?_))
    refine bodyPost_ret (v := .agg (pcP p (.slice b1 S'.length d1) (.slice b2 T'.length d2))) (results_cell_row (P := Tryd.prog) Tryd.results31 _ _ B 26 _ (0, 0) _ rfl (setRow_heap _ _ _ _ _ _ NBx.out) Tryd.underlying26 rfl (info31 _ _ _)) rfl ?_
    exact ⟨b1, d1, b2, d2, rfl, (Q1.out.setRow (Nat.lt_succ_self _) _).mono (Nat.le_succ _), (Q2.out.setRow (Nat.lt_succ_self _) _).mono (Nat.le_succ _), below_setRow BBx.out (Nat.le_refl _)⟩
  · have HK := TW.hide hK
    clear hK
    have hgB : X.heap.size ≤ Ya.heap.size := HTa.out.size
    have Ha : Hid (Below X.heap.size X (Ya.alloc (.cells #[.int .i64 0, .int .i64 0, .int .i64 0, .int .i64 0, .int .u32 0, .int .u64 0, .int .u32 0, .int .i64 0, .int .i64 0, .slice none 0 0, .slice none 0 0] 26))) := HTa.out.alloc hgB _
    have Na := TW.hide (heap_alloc_new Ya (.cells #[.int .i64 0, .int .i64 0, .int .i64 0, .int .i64 0, .int .u32 0, .int .u64 0, .int .u32 0, .int .i64 0, .int .i64 0, .slice none 0 0, .slice none 0 0] 26))
    go_simp
    refine HK.out _ _ Ha.out (fun _ => trivial) ?_
    clear HK KX HTa
    generalize Ya.alloc (.cells #[.int .i64 0, .int .i64 0, .int .i64 0, .int .i64 0, .int .u32 0, .int .u64 0, .int .u32 0, .int .i64 0, .int .i64 0, .slice none 0 0, .slice none 0 0] 26) = X0 at *
    generalize Ya.heap.size = g at *
    try simp only [Act.put, List.setIfInBounds_toArray, List.set_cons_zero, List.set_cons_succ, List.getElem_toArray, List.getElem_cons_zero, List.getElem_cons_succ]
    refine RG.wpL_step (i := 8) (by kernel_rfl) (by rfl) (by rfl) (fun KX hK => ?_)
    have HK := TW.hide hK
    clear hK
    go_simp
    refine (HNO.out _ (below_row B0.out Ha.out (by have := blk_lt N0.out; omega))).mono ?_
    rintro e X2 ⟨b1, d1, b2, d2, rfl, hq1, hq2, hb1⟩
    have Q1 := TW.hide ((hq1.setRow (blk_lt Na.out) (pcP p (.slice b1 S'.length d1) (.slice b2 T'.length d2))).mono (B' := B + 1) (by have h1 := Ha.out.size; have h2 := blk_lt N0.out; omega))
    have Q2 := TW.hide ((hq2.setRow (blk_lt Na.out) (pcP p (.slice b1 S'.length d1) (.slice b2 T'.length d2))).mono (B' := B + 1) (by have h1 := Ha.out.size; have h2 := blk_lt N0.out; omega))
    clear hq1 hq2
    have Hc : Hid (Below X.heap.size X X2) := below_row Ha.out hb1 Ha.out.size
    have Nc := TW.hide (blk_keep Na.out hb1)
    refine HK.out _ _ Hc.out (fun _ => trivial) ?_
    clear HK KX hb1 Ha Na
    try simp only [Act.put, List.setIfInBounds_toArray, List.set_cons_zero, List.set_cons_succ, List.getElem_toArray, List.getElem_cons_zero, List.getElem_cons_succ]
    refine RG.wpL_take (fuel := 2) (a' := ?Aaq) [9, 10, 11] (by kernel_rfl) (by kernel_rfl) (fun _ _ _ _ _ h => h) Hc.out (fun _ => trivial) ?raq ?_
    case raq =>
      refine RG.RunsIf.weak (v := ?_) (by rfl) (by rfl) (fun Z hT => ?_) ?_
      rotate_left
      · go_simp
        rfl
      simp only [Act.put, List.setIfInBounds_toArray, List.set_cons_zero, List.set_cons_succ, List.getElem_toArray, List.getElem_cons_zero, List.getElem_cons_succ]
      refine RG.RunsIf.weak (v := ?_) (by rfl) (by rfl) (fun Z hT => ?_) ?_
      rotate_left
      · go_simp
        rfl
      simp only [Act.put, List.setIfInBounds_toArray, List.set_cons_zero, List.set_cons_succ, List.getElem_toArray, List.getElem_cons_zero, List.getElem_cons_succ]
      refine RG.RunsIf.weak (v := ?_) (by rfl) (by rfl) (fun Z hT => ?_) ?_
      rotate_left
      · go_simp
        rfl
      simp only [Act.put, List.setIfInBounds_toArray, List.set_cons_zero, List.set_cons_succ, List.getElem_toArray, List.getElem_cons_zero, List.getElem_cons_succ]
      exact RG.RunsIf.nil
    have hgl2 : g < X2.heap.size := blk_lt Nc.out
    have T52 : Hid (Below X.heap.size X (X2.setRow g (pcP p (.slice b1 S'.length d1) (.slice b2 T'.length d2)))) := below_setRow Hc.out hgB
    have N52 := TW.hide (setRow_heap _ _ _ (pcP p (.slice b1 S'.length d1) (.slice b2 T'.length d2)) _ _ Nc.out)
    refine RG.wpL_step (i := 13) (by kernel_rfl) (by rfl) (by rfl) (fun KX hK => ?_)
    have HK := TW.hide hK
    clear hK
    refine wp_store_row 26 _ _ (by rfl) g (pcP p (.slice b1 S'.length d1) (.slice b2 T'.length d2)) (by rfl) (by rfl) 26 _ Nc.out (info31 _ _ _) (pc_size Pm.zero _ _ _ _ _) (pc_one _ _ _ _ _ _ _) ?_
    simp only [Act.put, List.setIfInBounds_toArray, List.set_cons_zero, List.set_cons_succ, List.getElem_toArray, List.getElem_cons_zero, List.getElem_cons_succ]
    refine HK.out _ _ T52.out (fun _ => trivial) ?_
    clear HK KX Hc Nc
    generalize X2.setRow g (pcP p (.slice b1 S'.length d1) (.slice b2 T'.length d2)) = Z2 at *
    refine RG.wpL_step (i := 14) (by kernel_rfl) (by rfl) (by rfl) (fun KX hK => ?_)
    have HK := TW.hide hK
    clear hK
    go_simp
    refine HK.out _ _ T52.out (fun _ => trivial) ?_
    clear HK KX
    refine RG.wpL_done (by kernel_rfl) ?_ _
    refine NoPanic.normal ?_
    refine HKK.out _ _ ?_
    clear HKK KK
    have NBy := TW.hide (blk_keep N0.out T52.out)
    have BBy : Hid (Below B w Z2) := below_row B0.out T52.out (by have := blk_lt N0.out; omega)
    clear T52 HNO HCK HCS
    go_wp2_with (first | (refine wpList_load_row (by rfl) 26 _ (by rfl) g (by rfl) 26 (pcP p (.slice b1 S'.length d1) (.slice b2 T'.length d2)) (0, 0) _ N52.out Tryd.underlying26 rfl (info31 _ _ _) ?_) | (refine wpList_store_row (by rfl) 26 _ _ (by rfl) B (pcP p (.slice b1 S'.length d1) (.slice b2 T'.length d2)) (by rfl) (by rfl) 26 _ NBy.out (info31 _ _ _) (pc_size Pm.zero _ _ _ _ _) (pc_one _ _ _ _ _ _ _) ?_))
    refine bodyPost_ret (v := .agg (pcP p (.slice b1 S'.length d1) (.slice b2 T'.length d2))) (results_cell_row (P := Tryd.prog) Tryd.results31 _ _ B 26 _ (0, 0) _ rfl (setRow_heap _ _ _ _ _ _ NBy.out) Tryd.underlying26 rfl (info31 _ _ _)) rfl ?_
    exact ⟨b1, d1, b2, d2, rfl, (Q1.out.setRow (Nat.lt_succ_self _) _).mono (Nat.le_succ _), (Q2.out.setRow (Nat.lt_succ_self _) _).mono (Nat.le_succ _), below_setRow BBy.out (Nat.le_refl _)⟩
end LW
end Go.Proofs.YteakoajkmcbilabDoor
namespace Go.Proofs.YteakoajkmcbilabDoor
open Go.RowKit Go.Shelf
set_option linter.unusedVariables false
set_option linter.unusedSimpArgs false
namespace LW
open Words Txt
/-- The place of the word that is to blame, of the first n rows. -/
def blN (ats : List Int) (E : Int) : Nat → Int
  | 0 => 0
  | n + 1 => if erOf ((n : Int) + 1) = E then ats.getD n 0 else blN ats E n
set_option maxRecDepth 100000 in
theorem settleWide (g : Nat) (kd : Int) (st : Rs) (w : World) (hG : Lrs w g kd st) (hww : ¬ st.ww = 0) :
    Calls Tryd.prog 31 #[.pointer (some ⟨g, 0, none⟩)] w fun e w' => e = .panicked (flt st.wa st.ww) ∧ Below w.heap.size w w' := by
  obtain ⟨cs, a1, a2, c1, c2, hg⟩ := hG
  have b0 := (Below.refl w.heap.size w).alloc (Nat.le_refl _) (.cells #[.int .i64 0, .int .i64 0, .int .i64 0, .int .i64 0, .int .u32 0, .int .u64 0, .int .u32 0, .int .i64 0, .int .i64 0, .slice none 0 0, .slice none 0 0] 26)
  have l0 := hg.lc.below b0
  have c24 := l0.cell hg.wa
  have c25 := l0.cell hg.ww
  have hne : (st.ww != 0) = true := bne0 hww
  have B0 := TW.hide b0
  clear b0 l0 hg hww
  generalize st.wa = wa at *
  generalize st.ww = ww at *
  go_enter Tryd.func31, Tryd.ntmps31
  refine wp_seq_k fun KK hK => ?_
  have HK := TW.hide hK
  clear hK
  go_wp2
  refine HK.out _ _ ?_
  clear HK KK
  generalize w.alloc _ = X at *
  go_wp2_with fail
  exact ⟨rfl, rfl, B0.out⟩
set_option maxRecDepth 100000 in
set_option maxHeartbeats 4000000 in
theorem settleE (gl : Nat) (kd : Int) (st : Rs) (p : Pm) (S T ats : List Int) (ep : st.q = p) (eS : st.s = S) (eT : st.t = T) (ea : st.ats = ats) (hp : p.Ok) (w : World) (hG : Lrs w gl kd st) (hww : st.ww = 0) (E : Int) (hck : p.ck kd S.length T.length = E) (hE : ¬ E = 0) :
    Calls Tryd.prog 31 #[.pointer (some ⟨gl, 0, none⟩)] w fun e w' => e = .panicked (flt (blN ats E 11) E) ∧ Below w.heap.size w w' := by
  obtain ⟨cs, a1, a2, c1, c2, hg⟩ := hG
  have bS : Pb w a1 c1 S := by rw [← eS]; exact hg.s.toPb
  have bT : Pb w a2 c2 T := by rw [← eT]; exact hg.t.toPb
  have hsaid := hg.said
  rw [ep, eS, eT] at hsaid
  have HNO : Hid (∀ W : World, Below w.heap.size w W → Calls Tryd.prog 17 #[.int .i64 kd, .agg (pcP p (.slice a1 S.length c1) (.slice a2 T.length c2))] W fun e w' => ∃ b1 d1 b2 d2, e = .returned (.tuple #[.agg (pcP Pm.zero (.slice b1 0 d1) (.slice b2 0 d2)), .int .i64 E]) ∧ Below W.heap.size W w') := fun W hb => by
    refine (normalP kd p hp a1 a2 c1 c2 S T W (bS.below hb) (bT.below hb)).mono ?_
    rintro e w' ⟨x, y, rfl, ox, oy, hb'⟩
    simp only [hck, nP, nS, if_neg hE] at ox oy ⊢
    obtain ⟨b1, d1, rfl, _⟩ := Pa.own (s := []) ox (by simp) Byt.nil
    obtain ⟨b2, d2, rfl, _⟩ := Pa.own (s := []) oy (by simp) Byt.nil
    exact ⟨b1, d1, b2, d2, rfl, hb'⟩
  have HCK : Hid (∀ Z : World, Below w.heap.size w Z → Z.cell? ⟨gl, 0, none⟩ = some (.int .i64 kd)) := fun Z hZ => (hg.lc.below hZ).cell hg.kind
  have HCA : Hid (∀ Z : World, Below w.heap.size w Z → ∀ i : Nat, i < 11 → Z.cell? ⟨gl, 12 + i, none⟩ = some (.int .i64 (ats.getD i 0))) := fun Z hZ i hi => by rw [← ea]; exact (hg.lc.below hZ).cell (hg.ats i hi)
  have HCS : Hid (∀ Z : World, Below w.heap.size w Z → Z.rangeAt gl 1 (pcP p (.slice a1 S.length c1) (.slice a2 T.length c2)).toList) := fun Z hZ j v hv => by
    have h1 := hsaid j v hv
    rw [hZ.cell (lt_of_cell h1)]; exact h1
  have c25 := hg.lc.cell hg.ww
  rw [hww] at c25
  have HRO := TW.hide (fun W => rows W)
  have hE0 : (E == 0) = false := by simpa using hE
  clear hg bS bT hck hp hsaid hww ep eS eT ea st
  generalize S.length = sl at *
  generalize T.length = tl at *
  have b0 := (Below.refl w.heap.size w).alloc (Nat.le_refl _) (.cells #[.int .i64 0, .int .i64 0, .int .i64 0, .int .i64 0, .int .u32 0, .int .u64 0, .int .u32 0, .int .i64 0, .int .i64 0, .slice none 0 0, .slice none 0 0] 26)
  have n0 := heap_alloc_new w (.cells #[.int .i64 0, .int .i64 0, .int .i64 0, .int .i64 0, .int .u32 0, .int .u64 0, .int .u32 0, .int .i64 0, .int .i64 0, .slice none 0 0, .slice none 0 0] 26)
  have c25' : (w.alloc (.cells #[.int .i64 0, .int .i64 0, .int .i64 0, .int .i64 0, .int .u32 0, .int .u64 0, .int .u32 0, .int .i64 0, .int .i64 0, .slice none 0 0, .slice none 0 0] 26)).cell? ⟨gl, 25, none⟩ = some (.int .i64 0) := by rw [b0.cell (lt_of_cell c25)]; exact c25
  clear c25
  go_enter Tryd.func31, Tryd.ntmps31
  refine wp_seq_k fun KK hK => ?_
  have HK := TW.hide hK
  clear hK
  go_wp2
  refine HK.out _ _ ?_
  clear HK KK
  generalize w.alloc _ = X at *
  generalize hB : w.heap.size = B at *
  have B0 := TW.hide b0
  have N0 := TW.hide n0
  clear b0 n0
  refine wp_seq_k fun KK hK => ?_
  have HK := TW.hide hK
  clear hK
  go_wp2_with fail
  refine HK.out _ _ ?_
  clear HK KK c25'
  have BX := TW.hide (Below.refl X.heap.size X)
  refine wp_seq_k fun KK hK => ?_
  have HKK := TW.hide hK
  clear hK
  refine wp_region_noPanic ?_
  refine RG.wp_region_L (fun Z => True) (fun Z => Below X.heap.size X Z) [] (by kernel_rfl) ?_
  refine RG.wpL_any fun Ya hY => ?_
  have HTa : Hid (Below X.heap.size X Ya) := by rw [hY]; exact below_drewN BX.out 1
  clear hY
  refine RG.wpL_take (fuel := 7) (a' := ?Aa) [0, 1, 2, 3, 4, 5, 6, 7] (by kernel_rfl) (by kernel_rfl) (fun _ _ _ _ _ h => h) HTa.out (fun _ => trivial) ?ra ?_
  case ra =>
    refine RG.RunsIf.weak (v := ?_) (by rfl) (by rfl) (fun Z hT => ?_) ?_
    rotate_left
    · go_simp
      rfl
    simp only [Act.put, List.setIfInBounds_toArray, List.set_cons_zero, List.set_cons_succ, List.getElem_toArray, List.getElem_cons_zero, List.getElem_cons_succ]
    refine RG.RunsIf.weak (v := ?_) (by rfl) (by rfl) (fun Z hT => ?_) ?_
    rotate_left
    · go_simp
      rfl
    simp only [Act.put, List.setIfInBounds_toArray, List.set_cons_zero, List.set_cons_succ, List.getElem_toArray, List.getElem_cons_zero, List.getElem_cons_succ]
    refine RG.RunsIf.weak (v := ?_) (by rfl) (by rfl) (fun Z hT => ?_) ?_
    rotate_left
    · go_simp
      rfl
    simp only [Act.put, List.setIfInBounds_toArray, List.set_cons_zero, List.set_cons_succ, List.getElem_toArray, List.getElem_cons_zero, List.getElem_cons_succ]
    refine RG.RunsIf.weak (v := .int .i64 kd) (by rfl) (by rfl) (fun Z hT => ?_) ?_
    · have cz := HCK.out Z (below_row B0.out hT (by have := blk_lt N0.out; omega))
      go_simp
    simp only [Act.put, List.setIfInBounds_toArray, List.set_cons_zero, List.set_cons_succ, List.getElem_toArray, List.getElem_cons_zero, List.getElem_cons_succ]
    refine RG.RunsIf.weak (v := ?_) (by rfl) (by rfl) (fun Z hT => ?_) ?_
    rotate_left
    · go_simp
      rfl
    simp only [Act.put, List.setIfInBounds_toArray, List.set_cons_zero, List.set_cons_succ, List.getElem_toArray, List.getElem_cons_zero, List.getElem_cons_succ]
    refine RG.RunsIf.weak (v := ?_) (by rfl) (by rfl) (fun Z hT => ?_) ?_
    rotate_left
    · go_simp
      rfl
    simp only [Act.put, List.setIfInBounds_toArray, List.set_cons_zero, List.set_cons_succ, List.getElem_toArray, List.getElem_cons_zero, List.getElem_cons_succ]
    refine RG.RunsIf.weak (v := ?_) (by rfl) (by rfl) (fun Z hT => ?_) ?_
    rotate_left
    · go_simp
      rfl
    simp only [Act.put, List.setIfInBounds_toArray, List.set_cons_zero, List.set_cons_succ, List.getElem_toArray, List.getElem_cons_zero, List.getElem_cons_succ]
    refine RG.RunsIf.weak (v := .agg (pcP p (.slice a1 sl c1) (.slice a2 tl c2))) (by rfl) (by rfl) (fun Z hT => val_mid (t := 26) (x := .tmp 26) (b := gl) (i := 1) (by rfl) (by rfl) (run_loadAt_mid Z gl 1 26 _ _ (HCS.out Z (below_row B0.out hT (by have := blk_lt N0.out; omega))) Tryd.underlying26 rfl (by kernel_rfl))) ?_
    simp only [Act.put, List.setIfInBounds_toArray, List.set_cons_zero, List.set_cons_succ, List.getElem_toArray, List.getElem_cons_zero, List.getElem_cons_succ]
    exact RG.RunsIf.nil
  refine RG.wpL_pair (i := 8) (j := 12) (by kernel_rfl) (by rfl) (by rfl) (by rfl) (by rfl) (fun KX hK => ?_) (fun KX hK => ?_)
  · have HK := TW.hide hK
    clear hK
    go_simp
    refine (HNO.out _ (below_row B0.out HTa.out (by have := blk_lt N0.out; omega))).mono ?_
    rintro e W1 ⟨b1, d1, b2, d2, rfl, hb1⟩
    have Hc : Hid (Below X.heap.size X W1) := below_row HTa.out hb1 HTa.out.size
    refine HK.out _ _ Hc.out (fun _ => trivial) ?_
    clear HK KX hb1
    try simp only [Act.put, List.setIfInBounds_toArray, List.set_cons_zero, List.set_cons_succ, List.getElem_toArray, List.getElem_cons_zero, List.getElem_cons_succ]
    refine RG.wpL_take (fuel := 3) (a' := ?Aap) [9, 10, 11] (by kernel_rfl) (by kernel_rfl) (fun _ _ _ _ _ h => h) Hc.out (fun _ => trivial) ?rap ?_
    case rap =>
      refine RG.RunsIf.weak (v := ?_) (by rfl) (by rfl) (fun Z hT => ?_) ?_
      rotate_left
      · go_simp
        rfl
      simp only [Act.put, List.setIfInBounds_toArray, List.set_cons_zero, List.set_cons_succ, List.getElem_toArray, List.getElem_cons_zero, List.getElem_cons_succ]
      refine RG.RunsIf.weak (v := ?_) (by rfl) (by rfl) (fun Z hT => ?_) ?_
      rotate_left
      · go_simp
        rfl
      simp only [Act.put, List.setIfInBounds_toArray, List.set_cons_zero, List.set_cons_succ, List.getElem_toArray, List.getElem_cons_zero, List.getElem_cons_succ]
      refine RG.RunsIf.weak (v := ?_) (by rfl) (by rfl) (fun Z hT => ?_) ?_
      rotate_left
      · go_simp
        rfl
      simp only [Act.put, List.setIfInBounds_toArray, List.set_cons_zero, List.set_cons_succ, List.getElem_toArray, List.getElem_cons_zero, List.getElem_cons_succ]
      exact RG.RunsIf.nil
    have hgB : X.heap.size ≤ W1.heap.size := Hc.out.size
    have Ha : Hid (Below X.heap.size X (W1.alloc (.cells #[.int .i64 0, .int .i64 0, .int .i64 0, .int .i64 0, .int .u32 0, .int .u64 0, .int .u32 0, .int .i64 0, .int .i64 0, .slice none 0 0, .slice none 0 0] 26))) := Hc.out.alloc hgB _
    have Na := TW.hide (heap_alloc_new W1 (.cells #[.int .i64 0, .int .i64 0, .int .i64 0, .int .i64 0, .int .u32 0, .int .u64 0, .int .u32 0, .int .i64 0, .int .i64 0, .slice none 0 0, .slice none 0 0] 26))
    refine RG.wpL_step (i := 12) (by kernel_rfl) (by rfl) (by rfl) (fun KX hK => ?_)
    have HK := TW.hide hK
    clear hK
    go_simp
    refine HK.out _ _ Ha.out (fun _ => trivial) ?_
    clear HK KX Hc
    generalize W1.alloc (.cells #[.int .i64 0, .int .i64 0, .int .i64 0, .int .i64 0, .int .u32 0, .int .u64 0, .int .u32 0, .int .i64 0, .int .i64 0, .slice none 0 0, .slice none 0 0] 26) = X1 at *
    generalize W1.heap.size = g at *
    have hgl1 : g < X1.heap.size := blk_lt Na.out
    have T51 : Hid (Below X.heap.size X (X1.setRow g (pcP Pm.zero (.slice b1 0 d1) (.slice b2 0 d2)))) := below_setRow Ha.out hgB
    have N51 := TW.hide (setRow_heap _ _ _ (pcP Pm.zero (.slice b1 0 d1) (.slice b2 0 d2)) _ _ Na.out)
    refine RG.wpL_step (i := 13) (by kernel_rfl) (by rfl) (by rfl) (fun KX hK => ?_)
    have HK := TW.hide hK
    clear hK
    refine wp_store_row 26 _ _ (by rfl) g (pcP Pm.zero (.slice b1 0 d1) (.slice b2 0 d2)) (by rfl) (by rfl) 26 _ Na.out (info31 _ _ _) (pc_size Pm.zero _ _ _ _ _) (pc_one _ _ _ _ _ _ _) ?_
    simp only [Act.put, List.setIfInBounds_toArray, List.set_cons_zero, List.set_cons_succ, List.getElem_toArray, List.getElem_cons_zero, List.getElem_cons_succ]
    refine HK.out _ _ T51.out (fun _ => trivial) ?_
    clear HK KX Ha Na
    generalize X1.setRow g (pcP Pm.zero (.slice b1 0 d1) (.slice b2 0 d2)) = Z1 at *
    refine RG.wpL_step (i := 14) (by kernel_rfl) (by rfl) (by rfl) (fun KX hK => ?_)
    have HK := TW.hide hK
    clear hK
    go_simp
    refine HK.out _ _ T51.out (fun _ => trivial) ?_
    clear HK KX
    refine RG.wpL_done (by kernel_rfl) ?_ _
    refine NoPanic.normal ?_
    refine HKK.out _ _ ?_
    clear HKK KK
    have BBx : Hid (Below B w Z1) := below_row B0.out T51.out (by have := blk_lt N0.out; omega)
    clear T51 HNO HCK HCS N51
    refine wp_seq_k fun KK hK => ?_
    have HK := TW.hide hK
    clear hK
    go_wp2_with fail
    refine HK.out _ _ ?_
    clear HK KK
    refine wp_seq_k fun KK hK => ?_
    have HK := TW.hide hK
    clear hK
    go_wp2_with fail
    refine HK.out _ _ ?_
    clear HK KK
    go_wp2_with fail
    refine (HRO.out _).mono ?_
    rintro e Vx ⟨rfl, hb⟩
    have BVx : Hid (Below B w Vx) := below_row BBx.out hb (by have h1 := BBx.out.size; omega)
    clear hb BBx HRO
    go_wp2_with fail
    go_loopw [5, 35] (fun a i wr => ∃ n : Nat, n ≤ 11 ∧ a = .int .i64 (blN ats E n) ∧ i = .int .i64 n ∧ Hid (Below B w wr)) (fun a i _ => 11 - (intOf i).toNat)
    case atStart => exact ⟨0, by omega, rfl, rfl, BVx.out⟩
    case round =>
      obtain ⟨n, hn, rfl, rfl, HBW⟩ := hrel
      clear BVx
      by_cases hlt : n < 11
      · have hidx : ∀ W : World, (Instr.index 63 (.agg rowsC) (.int .i64 (n : Int))).run Tryd.prog W = .ok (.agg #[.int .i64 ((n : Int) + 1), .string (nmOf ((n : Int) + 1)), .int .i64 (erOf ((n : Int) + 1)), .int .i64 (rAt 1 ((n : Int) + 1)), .int .i64 (rSz 1 ((n : Int) + 1)), .int .i64 (rAt 2 ((n : Int) + 1)), .int .i64 (rSz 2 ((n : Int) + 1))]) W := fun W => by
          have := rowAt ((n : Int) + 1) (by omega) (by omega) W
          rw [show ((n : Int) + 1 - 1) = (n : Int) by omega] at this
          exact this
        have hbl : blN ats E (n + 1) = if erOf ((n : Int) + 1) = E then ats.getD n 0 else blN ats E n := rfl
        have ca := HCA.out wr HBW.out n hlt
        have hla := lt_of_cell ca
        have HBL := TW.hide hbl
        have hn0 : (0 : Int) ≤ n := by omega
        have hn11 : (n : Int) < 11 := by omega
        clear hbl
        generalize erOf ((n : Int) + 1) = en at *
        generalize nmOf ((n : Int) + 1) = nn at *
        generalize rAt 1 ((n : Int) + 1) = z1 at *
        generalize rSz 1 ((n : Int) + 1) = z2 at *
        generalize rAt 2 ((n : Int) + 1) = z3 at *
        generalize rSz 2 ((n : Int) + 1) = z4 at *
        generalize hbp : blN ats E n = bp at *
        generalize hav : ats.getD n 0 = av at *
        have ca2 : (wr.alloc (.cells #[.int .i64 ((n : Int) + 1), .string nn, .int .i64 en, .int .i64 z1, .int .i64 z2, .int .i64 z3, .int .i64 z4] 62)).cell? ⟨gl, 12 + n, none⟩ = some (.int .i64 av) := by rw [World.cell?_alloc_old _ _ _ (Nat.ne_of_lt hla)]; exact ca
        have HBW2 : Hid (Below B w (wr.alloc (.cells #[.int .i64 ((n : Int) + 1), .string nn, .int .i64 en, .int .i64 z1, .int .i64 z2, .int .i64 z3, .int .i64 z4] 62))) := HBW.out.alloc (by have := HBW.out.size; omega) _
        by_cases hq : en = E
        · have hqb : (en == E) = true := by simpa using hq
          rw [if_pos hq] at HBL
          clear hq ca
          go_wp2_with fail
          go_roundw
          case rel => exact ⟨n + 1, by omega, by rw [HBL.out], by go_num, HBW2.out⟩
          case measure => simp [intOf]; omega
        · have hqb : (en == E) = false := by simpa using hq
          rw [if_neg hq] at HBL
          clear hq ca
          go_wp2_with fail
          go_roundw
          case rel => exact ⟨n + 1, by omega, by rw [HBL.out], by go_num, HBW2.out⟩
          case measure => simp [intOf]; omega
      · obtain rfl : n = 11 := by omega
        go_wp2_with fail
        exact ⟨rfl, rfl, HBW.out⟩
  · have HK := TW.hide hK
    clear hK
    have hgB : X.heap.size ≤ Ya.heap.size := HTa.out.size
    have Ha : Hid (Below X.heap.size X (Ya.alloc (.cells #[.int .i64 0, .int .i64 0, .int .i64 0, .int .i64 0, .int .u32 0, .int .u64 0, .int .u32 0, .int .i64 0, .int .i64 0, .slice none 0 0, .slice none 0 0] 26))) := HTa.out.alloc hgB _
    have Na := TW.hide (heap_alloc_new Ya (.cells #[.int .i64 0, .int .i64 0, .int .i64 0, .int .i64 0, .int .u32 0, .int .u64 0, .int .u32 0, .int .i64 0, .int .i64 0, .slice none 0 0, .slice none 0 0] 26))
    go_simp
    refine HK.out _ _ Ha.out (fun _ => trivial) ?_
    clear HK KX HTa
    generalize Ya.alloc (.cells #[.int .i64 0, .int .i64 0, .int .i64 0, .int .i64 0, .int .u32 0, .int .u64 0, .int .u32 0, .int .i64 0, .int .i64 0, .slice none 0 0, .slice none 0 0] 26) = X0 at *
    generalize Ya.heap.size = g at *
    try simp only [Act.put, List.setIfInBounds_toArray, List.set_cons_zero, List.set_cons_succ, List.getElem_toArray, List.getElem_cons_zero, List.getElem_cons_succ]
    refine RG.wpL_step (i := 8) (by kernel_rfl) (by rfl) (by rfl) (fun KX hK => ?_)
    have HK := TW.hide hK
    clear hK
    go_simp
    refine (HNO.out _ (below_row B0.out Ha.out (by have := blk_lt N0.out; omega))).mono ?_
    rintro e X2 ⟨b1, d1, b2, d2, rfl, hb1⟩
    have Hc : Hid (Below X.heap.size X X2) := below_row Ha.out hb1 Ha.out.size
    have Nc := TW.hide (blk_keep Na.out hb1)
    refine HK.out _ _ Hc.out (fun _ => trivial) ?_
    clear HK KX hb1 Ha Na
    try simp only [Act.put, List.setIfInBounds_toArray, List.set_cons_zero, List.set_cons_succ, List.getElem_toArray, List.getElem_cons_zero, List.getElem_cons_succ]
    refine RG.wpL_take (fuel := 2) (a' := ?Aaq) [9, 10, 11] (by kernel_rfl) (by kernel_rfl) (fun _ _ _ _ _ h => h) Hc.out (fun _ => trivial) ?raq ?_
    case raq =>
      refine RG.RunsIf.weak (v := ?_) (by rfl) (by rfl) (fun Z hT => ?_) ?_
      rotate_left
      · go_simp
        rfl
      simp only [Act.put, List.setIfInBounds_toArray, List.set_cons_zero, List.set_cons_succ, List.getElem_toArray, List.getElem_cons_zero, List.getElem_cons_succ]
      refine RG.RunsIf.weak (v := ?_) (by rfl) (by rfl) (fun Z hT => ?_) ?_
      rotate_left
      · go_simp
        rfl
      simp only [Act.put, List.setIfInBounds_toArray, List.set_cons_zero, List.set_cons_succ, List.getElem_toArray, List.getElem_cons_zero, List.getElem_cons_succ]
      refine RG.RunsIf.weak (v := ?_) (by rfl) (by rfl) (fun Z hT => ?_) ?_
      rotate_left
      · go_simp
        rfl
      simp only [Act.put, List.setIfInBounds_toArray, List.set_cons_zero, List.set_cons_succ, List.getElem_toArray, List.getElem_cons_zero, List.getElem_cons_succ]
      exact RG.RunsIf.nil
    have hgl2 : g < X2.heap.size := blk_lt Nc.out
    have T52 : Hid (Below X.heap.size X (X2.setRow g (pcP Pm.zero (.slice b1 0 d1) (.slice b2 0 d2)))) := below_setRow Hc.out hgB
    have N52 := TW.hide (setRow_heap _ _ _ (pcP Pm.zero (.slice b1 0 d1) (.slice b2 0 d2)) _ _ Nc.out)
    refine RG.wpL_step (i := 13) (by kernel_rfl) (by rfl) (by rfl) (fun KX hK => ?_)
    have HK := TW.hide hK
    clear hK
    refine wp_store_row 26 _ _ (by rfl) g (pcP Pm.zero (.slice b1 0 d1) (.slice b2 0 d2)) (by rfl) (by rfl) 26 _ Nc.out (info31 _ _ _) (pc_size Pm.zero _ _ _ _ _) (pc_one _ _ _ _ _ _ _) ?_
    simp only [Act.put, List.setIfInBounds_toArray, List.set_cons_zero, List.set_cons_succ, List.getElem_toArray, List.getElem_cons_zero, List.getElem_cons_succ]
    refine HK.out _ _ T52.out (fun _ => trivial) ?_
    clear HK KX Hc Nc
    generalize X2.setRow g (pcP Pm.zero (.slice b1 0 d1) (.slice b2 0 d2)) = Z2 at *
    refine RG.wpL_step (i := 14) (by kernel_rfl) (by rfl) (by rfl) (fun KX hK => ?_)
    have HK := TW.hide hK
    clear hK
    go_simp
    refine HK.out _ _ T52.out (fun _ => trivial) ?_
    clear HK KX
    refine RG.wpL_done (by kernel_rfl) ?_ _
    refine NoPanic.normal ?_
    refine HKK.out _ _ ?_
    clear HKK KK
    have BBy : Hid (Below B w Z2) := below_row B0.out T52.out (by have := blk_lt N0.out; omega)
    clear T52 HNO HCK HCS N52
    refine wp_seq_k fun KK hK => ?_
    have HK := TW.hide hK
    clear hK
    go_wp2_with fail
    refine HK.out _ _ ?_
    clear HK KK
    refine wp_seq_k fun KK hK => ?_
    have HK := TW.hide hK
    clear hK
    go_wp2_with fail
    refine HK.out _ _ ?_
    clear HK KK
    go_wp2_with fail
    refine (HRO.out _).mono ?_
    rintro e Vy ⟨rfl, hb⟩
    have BVy : Hid (Below B w Vy) := below_row BBy.out hb (by have h1 := BBy.out.size; omega)
    clear hb BBy HRO
    go_wp2_with fail
    go_loopw [5, 35] (fun a i wr => ∃ n : Nat, n ≤ 11 ∧ a = .int .i64 (blN ats E n) ∧ i = .int .i64 n ∧ Hid (Below B w wr)) (fun a i _ => 11 - (intOf i).toNat)
    case atStart => exact ⟨0, by omega, rfl, rfl, BVy.out⟩
    case round =>
      obtain ⟨n, hn, rfl, rfl, HBW⟩ := hrel
      clear BVy
      by_cases hlt : n < 11
      · have hidx : ∀ W : World, (Instr.index 63 (.agg rowsC) (.int .i64 (n : Int))).run Tryd.prog W = .ok (.agg #[.int .i64 ((n : Int) + 1), .string (nmOf ((n : Int) + 1)), .int .i64 (erOf ((n : Int) + 1)), .int .i64 (rAt 1 ((n : Int) + 1)), .int .i64 (rSz 1 ((n : Int) + 1)), .int .i64 (rAt 2 ((n : Int) + 1)), .int .i64 (rSz 2 ((n : Int) + 1))]) W := fun W => by
          have := rowAt ((n : Int) + 1) (by omega) (by omega) W
          rw [show ((n : Int) + 1 - 1) = (n : Int) by omega] at this
          exact this
        have hbl : blN ats E (n + 1) = if erOf ((n : Int) + 1) = E then ats.getD n 0 else blN ats E n := rfl
        have ca := HCA.out wr HBW.out n hlt
        have hla := lt_of_cell ca
        have HBL := TW.hide hbl
        have hn0 : (0 : Int) ≤ n := by omega
        have hn11 : (n : Int) < 11 := by omega
        clear hbl
        generalize erOf ((n : Int) + 1) = en at *
        generalize nmOf ((n : Int) + 1) = nn at *
        generalize rAt 1 ((n : Int) + 1) = z1 at *
        generalize rSz 1 ((n : Int) + 1) = z2 at *
        generalize rAt 2 ((n : Int) + 1) = z3 at *
        generalize rSz 2 ((n : Int) + 1) = z4 at *
        generalize hbp : blN ats E n = bp at *
        generalize hav : ats.getD n 0 = av at *
        have ca2 : (wr.alloc (.cells #[.int .i64 ((n : Int) + 1), .string nn, .int .i64 en, .int .i64 z1, .int .i64 z2, .int .i64 z3, .int .i64 z4] 62)).cell? ⟨gl, 12 + n, none⟩ = some (.int .i64 av) := by rw [World.cell?_alloc_old _ _ _ (Nat.ne_of_lt hla)]; exact ca
        have HBW2 : Hid (Below B w (wr.alloc (.cells #[.int .i64 ((n : Int) + 1), .string nn, .int .i64 en, .int .i64 z1, .int .i64 z2, .int .i64 z3, .int .i64 z4] 62))) := HBW.out.alloc (by have := HBW.out.size; omega) _
        by_cases hq : en = E
        · have hqb : (en == E) = true := by simpa using hq
          rw [if_pos hq] at HBL
          clear hq ca
          go_wp2_with fail
          go_roundw
          case rel => exact ⟨n + 1, by omega, by rw [HBL.out], by go_num, HBW2.out⟩
          case measure => simp [intOf]; omega
        · have hqb : (en == E) = false := by simpa using hq
          rw [if_neg hq] at HBL
          clear hq ca
          go_wp2_with fail
          go_roundw
          case rel => exact ⟨n + 1, by omega, by rw [HBL.out], by go_num, HBW2.out⟩
          case measure => simp [intOf]; omega
      · obtain rfl : n = 11 := by omega
        go_wp2_with fail
        exact ⟨rfl, rfl, HBW.out⟩
end LW
end Go.Proofs.YteakoajkmcbilabDoor
namespace Go.Proofs.YteakoajkmcbilabDoor
open Go.RowKit Go.Shelf
set_option linter.unusedVariables false
set_option linter.unusedSimpArgs false
namespace LW
open Words Txt
theorem assert75 (X : Value) (w : World) : (Instr.typeAssert (.iface 75 X) 20 75 false).run Tryd.prog w = .ok X w := by kernel_rfl
set_option maxRecDepth 100000 in
set_option maxHeartbeats 4000000 in
theorem caught (B q1 q2 q3 : Nat) (h1 : B < q1) (h2 : q1 < q2) (h3 : q2 < q3) (at_ why : Int) (v0 v2 v3 : Value) (cs : Array Value) (hcs : cs.size = 11) (w : World) (k0 : w.heap[B]? = some (.cells #[v0] 30 (0, 0))) (k1 : w.heap[q1]? = some (.cells cs 26 (0, 0))) (k2 : w.heap[q2]? = some (.cells #[v2] 3 (0, 0))) (k3 : w.heap[q3]? = some (.cells #[v3] 27 (0, 0))) :
    CallsD Tryd.prog 29 #[.pointer (some ⟨B, 0, none⟩), .pointer (some ⟨q1, 0, none⟩), .pointer (some ⟨q2, 0, none⟩), .pointer (some ⟨q3, 0, none⟩)] (.panicking (flt at_ why)) w fun e u' w' => e = .returned (.tuple #[]) ∧ u' = .panicking [{ v := .iface 75 (.agg #[.int .i64 at_, .int .i64 why]), recovered := true }] ∧
      (w'.heap[B]? = some (.cells #[.int .i64 0] 30 (0, 0)) ∧ w'.heap[q1]? = some (.cells #[.int .i64 0, .int .i64 0, .int .i64 0, .int .i64 0, .int .u32 0, .int .u64 0, .int .u32 0, .int .i64 0, .int .i64 0, .slice none 0 0, .slice none 0 0] 26 (0, 0)) ∧ w'.heap[q2]? = some (.cells #[.int .i64 at_] 3 (0, 0)) ∧ w'.heap[q3]? = some (.cells #[.int .i64 why] 27 (0, 0))) ∧ Below B w w' := by
  have hta := assert75 (.agg #[.int .i64 at_, .int .i64 why])
  refine callsD_of_wpS Tryd.func29 rfl fun c₀ cs' hu => ?_
  apply wpS_seq
  apply wpS_region
  simp [wpOpsS, go_sem, recoverD, hu, Tryd.ntmps29, Exit.thenS]
  apply wpS_seq
  apply wpS_region
  simp [wpOpsS, go_sem, recoverD, hu, Tryd.ntmps29, Exit.thenS]
  refine wpS_cond (t := true) (by simp [Act.eval, Array.replicate]) ?_
  simp only [if_true]
  refine wpS_of_wp ?_
  change Code.wp _ _ _ { tmps := #[.pointer (some ⟨B, 0, none⟩), .pointer (some ⟨q1, 0, none⟩), .pointer (some ⟨q2, 0, none⟩), .pointer (some ⟨q3, 0, none⟩), (.iface 75 (.agg #[.int .i64 at_, .int .i64 why])), undef, (.iface 75 (.agg #[.int .i64 at_, .int .i64 why])), (.iface 75 (.agg #[.int .i64 at_, .int .i64 why])), .bool true, undef, undef, undef, undef, undef, undef, undef], defers := [] } _
  have hl := blk_lt k3
  have b0 := (Below.refl w.heap.size w).alloc (Nat.le_refl _) (.cells #[.int .i64 at_, .int .i64 why] 75)
  have n0 := heap_alloc_new w (.cells #[.int .i64 at_, .int .i64 why] 75)
  have B0 := TW.hide (b0.mono (show B ≤ w.heap.size by omega))
  have x0 := blk_keep k0 b0
  have x1 := blk_keep k1 b0
  have x2 := blk_keep k2 b0
  have x3 := blk_keep k3 b0
  clear b0 k0 k1 k2 k3
  refine wp_seq_k fun KK hK => ?_
  have HK := TW.hide hK
  clear hK
  go_wp2_with fail
  refine HK.out _ _ ?_
  clear HK KK
  generalize w.alloc _ = X at *
  generalize hfb : w.heap.size = fb at *
  have V0 := TW.hide x0
  have V1 := TW.hide x1
  have V2 := TW.hide x2
  have V3 := TW.hide x3
  have NF := TW.hide n0
  clear x0 x1 x2 x3 n0
  refine wp_region_noPanic ?_
  refine RG.wp_region_L (fun Z => True) (fun Z => Z.heap[fb]? = some (.cells #[.int .i64 at_, .int .i64 why] 75 (0, 0))) [] (by kernel_rfl) ?_
  refine RG.wpL_any fun Y hY => ?_
  have HT : Hid (Y.heap[fb]? = some (.cells #[.int .i64 at_, .int .i64 why] 75 (0, 0))) := by rw [hY]; exact NF.out
  have y0 := V0.out
  have y1 := V1.out
  have y2 := V2.out
  have y3 := V3.out
  have eh : X.heap = Y.heap := by rw [hY]; rfl
  rw [eh] at y0 y1 y2 y3
  clear eh
  have BY : Hid (Below B w Y) := by rw [hY]; exact B0.out.drew
  clear hY V0 V1 V2 V3 NF B0
  refine RG.wpL_take (fuel := 4) (a' := ?Aa) [0, 1, 2, 3, 4] (by kernel_rfl) (by kernel_rfl) (fun _ _ _ _ _ h => h) HT.out (fun _ => trivial) ?ra ?_
  case ra =>
    refine RG.RunsIf.weak (v := ?_) (by rfl) (by rfl) (fun Z hT => ?_) ?_
    rotate_left
    · go_simp
      rfl
    simp only [Act.put, List.setIfInBounds_toArray, List.set_cons_zero, List.set_cons_succ, List.getElem_toArray, List.getElem_cons_zero, List.getElem_cons_succ]
    refine RG.RunsIf.weak (v := ?_) (by rfl) (by rfl) (fun Z hT => ?_) ?_
    rotate_left
    · go_simp
      rfl
    simp only [Act.put, List.setIfInBounds_toArray, List.set_cons_zero, List.set_cons_succ, List.getElem_toArray, List.getElem_cons_zero, List.getElem_cons_succ]
    refine RG.RunsIf.weak (v := .int .i64 at_) (by rfl) (by rfl) (fun Z hT => ?_) ?_
    · have cz := blk_cell (i := 0) hT rfl
      go_simp
    simp only [Act.put, List.setIfInBounds_toArray, List.set_cons_zero, List.set_cons_succ, List.getElem_toArray, List.getElem_cons_zero, List.getElem_cons_succ]
    refine RG.RunsIf.weak (v := ?_) (by rfl) (by rfl) (fun Z hT => ?_) ?_
    rotate_left
    · go_simp
      rfl
    simp only [Act.put, List.setIfInBounds_toArray, List.set_cons_zero, List.set_cons_succ, List.getElem_toArray, List.getElem_cons_zero, List.getElem_cons_succ]
    refine RG.RunsIf.weak (v := .int .i64 why) (by rfl) (by rfl) (fun Z hT => ?_) ?_
    · have cz := blk_cell (i := 1) hT rfl
      go_simp
    simp only [Act.put, List.setIfInBounds_toArray, List.set_cons_zero, List.set_cons_succ, List.getElem_toArray, List.getElem_cons_zero, List.getElem_cons_succ]
    exact RG.RunsIf.nil
  have ca := blk_cell (i := 0) y0 rfl
  have fa : Y.frozen? ⟨B, 0, none⟩ = false := by simp [World.frozen?, y0]
  have a0 := blk_set (i := 0) (u := .int .i64 0) y0
  have a1 := blk_other (p := B) (o := 0) (u := .int .i64 0) y1 (by omega)
  have a2 := blk_other (p := B) (o := 0) (u := .int .i64 0) y2 (by omega)
  have a3 := blk_other (p := B) (o := 0) (u := .int .i64 0) y3 (by omega)
  have TA := TW.hide (blk_other (p := B) (o := 0) (u := .int .i64 0) HT.out (by omega))
  have BA : Hid (Below B w (Y.setCell ⟨B, 0, none⟩ (.int .i64 0))) := BY.out.setCell (Nat.le_refl _) _
  clear y0 y1 y2 y3 BY HT
  refine RG.wpL_step (i := 5) (by kernel_rfl) (by rfl) (by rfl) (fun KX hK => ?_)
  have HK := TW.hide hK
  clear hK
  go_simp
  refine HK.out _ _ TA.out (fun _ => trivial) ?_
  clear HK KX
  clear ca fa
  generalize Y.setCell ⟨B, 0, none⟩ (.int .i64 0) = V1 at *
  have r0 : (V1.setRow q1 #[.int .i64 0, .int .i64 0, .int .i64 0, .int .i64 0, .int .u32 0, .int .u64 0, .int .u32 0, .int .i64 0, .int .i64 0, .slice none 0 0, .slice none 0 0]).heap[B]? = _ := (setRow_other _ _ _ _ (by omega)).trans a0
  have r1 := setRow_heap _ _ _ #[.int .i64 0, .int .i64 0, .int .i64 0, .int .i64 0, .int .u32 0, .int .u64 0, .int .u32 0, .int .i64 0, .int .i64 0, .slice none 0 0, .slice none 0 0] _ _ a1
  have r2 : (V1.setRow q1 #[.int .i64 0, .int .i64 0, .int .i64 0, .int .i64 0, .int .u32 0, .int .u64 0, .int .u32 0, .int .i64 0, .int .i64 0, .slice none 0 0, .slice none 0 0]).heap[q2]? = _ := (setRow_other _ _ _ _ (by omega)).trans a2
  have r3 : (V1.setRow q1 #[.int .i64 0, .int .i64 0, .int .i64 0, .int .i64 0, .int .u32 0, .int .u64 0, .int .u32 0, .int .i64 0, .int .i64 0, .slice none 0 0, .slice none 0 0]).heap[q3]? = _ := (setRow_other _ _ _ _ (by omega)).trans a3
  have TB : Hid ((V1.setRow q1 #[.int .i64 0, .int .i64 0, .int .i64 0, .int .i64 0, .int .u32 0, .int .u64 0, .int .u32 0, .int .i64 0, .int .i64 0, .slice none 0 0, .slice none 0 0]).heap[fb]? = some (.cells #[.int .i64 at_, .int .i64 why] 75 (0, 0))) := (setRow_other _ _ _ _ (by omega)).trans TA.out
  have BB : Hid (Below B w (V1.setRow q1 #[.int .i64 0, .int .i64 0, .int .i64 0, .int .i64 0, .int .u32 0, .int .u64 0, .int .u32 0, .int .i64 0, .int .i64 0, .slice none 0 0, .slice none 0 0])) := below_setRow BA.out (by omega)
  refine RG.wpL_step (i := 6) (by kernel_rfl) (by rfl) (by rfl) (fun KX hK => ?_)
  have HK := TW.hide hK
  clear hK
  refine wp_store_row 26 _ _ (by rfl) q1 #[.int .i64 0, .int .i64 0, .int .i64 0, .int .i64 0, .int .u32 0, .int .u64 0, .int .u32 0, .int .i64 0, .int .i64 0, .slice none 0 0, .slice none 0 0] (by rfl) (by rfl) 26 _ a1 (by kernel_rfl) hcs (by kernel_rfl) ?_
  simp only [Act.put, List.setIfInBounds_toArray, List.set_cons_zero, List.set_cons_succ, List.getElem_toArray, List.getElem_cons_zero, List.getElem_cons_succ]
  refine HK.out _ _ TB.out (fun _ => trivial) ?_
  clear HK KX
  clear a0 a1 a2 a3 TA BA
  generalize V1.setRow q1 #[.int .i64 0, .int .i64 0, .int .i64 0, .int .i64 0, .int .u32 0, .int .u64 0, .int .u32 0, .int .i64 0, .int .i64 0, .slice none 0 0, .slice none 0 0] = V2 at *
  have ca := blk_cell (i := 0) r2 rfl
  have fa : V2.frozen? ⟨q2, 0, none⟩ = false := by simp [World.frozen?, r2]
  have s0 := blk_other (p := q2) (o := 0) (u := .int .i64 at_) r0 (by omega)
  have s1 := blk_other (p := q2) (o := 0) (u := .int .i64 at_) r1 (by omega)
  have s2 := blk_set (i := 0) (u := .int .i64 at_) r2
  have s3 := blk_other (p := q2) (o := 0) (u := .int .i64 at_) r3 (by omega)
  have TC := TW.hide (blk_other (p := q2) (o := 0) (u := .int .i64 at_) TB.out (by omega))
  have BC : Hid (Below B w (V2.setCell ⟨q2, 0, none⟩ (.int .i64 at_))) := BB.out.setCell (show B ≤ q2 by omega) _
  clear r0 r1 r2 r3 TB BB
  refine RG.wpL_step (i := 7) (by kernel_rfl) (by rfl) (by rfl) (fun KX hK => ?_)
  have HK := TW.hide hK
  clear hK
  go_simp
  refine HK.out _ _ TC.out (fun _ => trivial) ?_
  clear HK KX
  clear ca fa
  generalize V2.setCell ⟨q2, 0, none⟩ (.int .i64 at_) = V3 at *
  have ca := blk_cell (i := 0) s3 rfl
  have fa : V3.frozen? ⟨q3, 0, none⟩ = false := by simp [World.frozen?, s3]
  have t0 := blk_other (p := q3) (o := 0) (u := .int .i64 why) s0 (by omega)
  have t1 := blk_other (p := q3) (o := 0) (u := .int .i64 why) s1 (by omega)
  have t2 := blk_other (p := q3) (o := 0) (u := .int .i64 why) s2 (by omega)
  have t3 := blk_set (i := 0) (u := .int .i64 why) s3
  have TD := TW.hide (blk_other (p := q3) (o := 0) (u := .int .i64 why) TC.out (by omega))
  have BD : Hid (Below B w (V3.setCell ⟨q3, 0, none⟩ (.int .i64 why))) := BC.out.setCell (show B ≤ q3 by omega) _
  clear s0 s1 s2 s3 TC BC
  refine RG.wpL_step (i := 8) (by kernel_rfl) (by rfl) (by rfl) (fun KX hK => ?_)
  have HK := TW.hide hK
  clear hK
  go_simp
  refine HK.out _ _ TD.out (fun _ => trivial) ?_
  clear HK KX
  clear ca fa
  generalize V3.setCell ⟨q3, 0, none⟩ (.int .i64 why) = V4 at *
  refine RG.wpL_done (by kernel_rfl) ?_ _
  refine NoPanic.normal ?_
  cases c₀
  simp [bodyPostS, results, Tryd.results29]
  exact ⟨⟨t0, t1, t2, t3⟩, BD.out⟩
end LW
end Go.Proofs.YteakoajkmcbilabDoor
namespace Go.Proofs.YteakoajkmcbilabDoor
open Go.RowKit Go.Shelf
set_option linter.unusedVariables false
set_option linter.unusedSimpArgs false
namespace RG
section
variable {P : Program} {ops : Array Oper} {Q : Exit → Act → World → Prop} {md : Region.Mode} {S T : World → Prop} {late : List Nat}
/-- As wpL_take, the ends that give up asked of these operations alone. -/
theorem wpL_takeQ : ∀ (is : List Nat) {fuel : Nat} {listed : Array Bool} {a a' : Act} {w : World} (hs : Region.noSelect ops = true) (hm : mayTake md ops late is listed = true)
    (hQ : ∀ i ∈ is, ∀ o, ops[i]? = some o → ∀ c a v w, Q (.panic c) (Act.put a o.dst v) w → Q (.panic c) a w) (hT : T w) (hS : noLate late listed = true → S w) (hr : RunsIf P md ops S T late is a a')
    (h : wpL P md ops Q S T late fuel (take is listed) a' w), wpL P md ops Q S T late (fuel + is.length) listed a w
  | [], _, _, _, _, _, _, _, _, _, _, hr, h => by cases hr; exact h
  | i :: r, fuel, listed, a, a', w, hs, hm, hQ, hT, hS, hr, h => by
    obtain ⟨o, v, ho, hy, hr'⟩ := hr
    simp only [mayTake, Bool.and_eq_true, Bool.not_eq_true', Bool.or_eq_true] at hm
    obtain ⟨⟨⟨⟨h1, h2⟩, h3⟩, h4⟩, h5⟩ := hm
    have := wpL_takeQ r (listed := listed.setIfInBounds i true) hs h5 (fun j hj => hQ j (by simp [hj])) hT (fun hn => hS (by rwa [noLate_set h3] at hn)) hr' h
    refine wpL_first ho h3 (Region.noSelect_spec hs) (fun c a w => hQ i (by simp) o ho c a _ w) _ listed a w (Region.free_spec ho h1) (by simpa using h2) hy hT hS (fun hl => ?_) this
    rcases h4 with h4 | h4
    · rw [hl] at h4; cases h4
    · exact h4
end
end RG
namespace LW
open Words Txt
/-- What a line says of a kind. -/
def rdK (kd : Int) (ws : List (List Int)) : (Int × Rs) ⊕ (Int × Int) :=
  match runR (initR kd) ws 3 with
  | .inr a => .inr (a, 4)
  | .inl st => if st.ww = 0 then (if st.q.ck kd st.s.length st.t.length = 0 then .inl (kd, st) else .inr (blN st.ats (st.q.ck kd st.s.length st.t.length) 11, st.q.ck kd st.s.length st.t.length)) else .inr (st.wa, st.ww)
/-- What a line says. -/
def rdF (w0 : List Int) (ws : List (List Int)) : (Int × Rs) ⊕ (Int × Int) := if w0 = knL 1 then rdK 1 ws else if w0 = knL 2 then rdK 2 ws else .inr (0, 4)
theorem kn12 : ¬ knL 2 = knL 1 := by simp [knL]
theorem rdF_kn {kd : Int} (hk : kd = 1 ∨ kd = 2) (ws : List (List Int)) : rdF (knL kd) ws = rdK kd ws := by
  rcases hk with rfl | rfl
  · simp [rdF]
  · simp [rdF, kn12]
/-- What Read tells. -/
def ReadPost (r : (Int × Rs) ⊕ (Int × Int)) (w : World) (e : Ending) (w' : World) : Prop :=
  Below w.heap.size w w' ∧ match r with
    | .inr (a, y) => e = .returned (.tuple #[.int .i64 0, .agg #[.int .i64 0, .int .i64 0, .int .i64 0, .int .i64 0, .int .u32 0, .int .u64 0, .int .u32 0, .int .i64 0, .int .i64 0, .slice none 0 0, .slice none 0 0], .int .i64 a, .int .i64 y])
    | .inl (kd, st) => ∃ b1 d1 b2 d2, e = .returned (.tuple #[.int .i64 kd, .agg (pcP st.q (.slice b1 (tr st.s).length d1) (.slice b2 (tr st.t).length d2)), .int .i64 0, .int .i64 0]) ∧ Pb w' b1 d1 (tr st.s) ∧ Pb w' b2 d2 (tr st.t)
set_option maxRecDepth 100000 in
theorem results_readE (tmps : Array Value) (w : World) (B q1 q2 q3 : Nat) (kd a y : Int) (cs : Array Value) (h2 : tmps.getD 2 undef = .pointer (some ⟨B, 0, none⟩)) (h3 : tmps.getD 3 undef = .pointer (some ⟨q1, 0, none⟩)) (h4 : tmps.getD 4 undef = .pointer (some ⟨q2, 0, none⟩)) (h5 : tmps.getD 5 undef = .pointer (some ⟨q3, 0, none⟩))
    (c0 : w.cell? ⟨B, 0, none⟩ = some (.int .i64 kd)) (c1 : w.heap[q1]? = some (.cells cs 26 (0, 0))) (c2 : w.cell? ⟨q2, 0, none⟩ = some (.int .i64 a)) (c3 : w.cell? ⟨q3, 0, none⟩ = some (.int .i64 y)) (hi : (Tryd.prog.info? 26).map (·.size) = some cs.size) :
    (results Tryd.f9 tmps).run Tryd.prog w = .ok (.tuple #[.int .i64 kd, .agg cs, .int .i64 a, .int .i64 y]) w := by
  have h2' : tmps[2]?.getD undef = .pointer (some ⟨B, 0, none⟩) := by simpa using h2
  have h3' : tmps[3]?.getD undef = .pointer (some ⟨q1, 0, none⟩) := by simpa using h3
  have h4' : tmps[4]?.getD undef = .pointer (some ⟨q2, 0, none⟩) := by simpa using h4
  have h5' : tmps[5]?.getD undef = .pointer (some ⟨q3, 0, none⟩) := by simpa using h5
  have r1 := run_loadVar_row w q1 26 26 cs (0, 0) _ c1 Tryd.underlying26 rfl hi
  have r0 : (loadVar 30 ⟨B, 0, none⟩).run Tryd.prog w = .ok (.int .i64 kd) w := by simp [go_sem, c0]
  have r2 : (loadVar 3 ⟨q2, 0, none⟩).run Tryd.prog w = .ok (.int .i64 a) w := by simp [go_sem, c2]
  have r3 : (loadVar 27 ⟨q3, 0, none⟩).run Tryd.prog w = .ok (.int .i64 y) w := by simp [go_sem, c3]
  simp [results, Tryd.results9, h2', h3', h4', h5', asAddr, r0, r1, r2, r3]
set_option maxRecDepth 100000 in
theorem idle (p0 p1 p2 p3 : Value) (w : World) :
    CallsD Tryd.prog 29 #[p0, p1, p2, p3] .returning w fun e u' w' => e = .returned (.tuple #[]) ∧ u' = .returning ∧ w' = w := by
  refine callsD_of_wpS Tryd.func29 rfl fun c₀ cs hu => ?_
  apply wpS_seq
  apply wpS_region
  simp [wpOpsS, go_sem, recoverD, hu, Tryd.ntmps29, Exit.thenS]
  apply wpS_seq
  apply wpS_region
  simp [wpOpsS, go_sem, recoverD, hu, Tryd.ntmps29, Exit.thenS]
  refine wpS_cond (t := false) (by simp [Act.eval, Array.replicate]) ?_
  simp only [Bool.false_eq_true, if_false]
  refine wpS_of_wp (wp_skip ?_)
  cases c₀
  simp_all [bodyPostS, results, Tryd.results29]
/-- The ends of a region in which something gives up. -/
def GaveQ (B q1 q2 q3 : Nat) (at_ why : Int) (w : World) : Exit → Act → World → Prop
  | .panic c, a, V => c = flt at_ why ∧ a.defers = [{ target := .fn (.func 29) #[.pointer (some ⟨B, 0, none⟩), .pointer (some ⟨q1, 0, none⟩), .pointer (some ⟨q2, 0, none⟩), .pointer (some ⟨q3, 0, none⟩)], args := #[] }] ∧ a.tmps.getD 2 undef = .pointer (some ⟨B, 0, none⟩) ∧ a.tmps.getD 3 undef = .pointer (some ⟨q1, 0, none⟩) ∧ a.tmps.getD 4 undef = .pointer (some ⟨q2, 0, none⟩) ∧ a.tmps.getD 5 undef = .pointer (some ⟨q3, 0, none⟩) ∧
      (∃ v0 cs v2 v3, cs.size = 11 ∧ V.heap[B]? = some (.cells #[v0] 30 (0, 0)) ∧ V.heap[q1]? = some (.cells cs 26 (0, 0)) ∧ V.heap[q2]? = some (.cells #[v2] 3 (0, 0)) ∧ V.heap[q3]? = some (.cells #[v3] 27 (0, 0))) ∧ Below B w V
  | _, _, _ => False
theorem getD_put {a : Act} {d k : Nat} {v : Value} (h : d ≠ k) : (Act.put a (some d) v).tmps.getD k undef = a.tmps.getD k undef := by
  simp [Act.put, Array.getElem?_setIfInBounds, h]
theorem GaveQ.put {B q1 q2 q3 : Nat} {at_ why : Int} {w : World} {c : List PanicEntry} {a : Act} {d : Nat} {v : Value} {V : World} (hd : 6 ≤ d) (h : GaveQ B q1 q2 q3 at_ why w (.panic c) (Act.put a (some d) v) V) : GaveQ B q1 q2 q3 at_ why w (.panic c) a V := by
  obtain ⟨h1, h2, h3, h4, h5, h6, h7, h8⟩ := h
  rw [getD_put (by omega)] at h3 h4 h5 h6
  exact ⟨h1, h2, h3, h4, h5, h6, h7, h8⟩
/-- Where something gave up: what Read tells. -/
theorem gaveUp (B q1 q2 q3 : Nat) (h1 : B < q1) (h2 : q1 < q2) (h3 : q2 < q3) (at_ why : Int) (v0 v2 v3 : Value) (cs : Array Value) (hcs : cs.size = 11) (w V : World) (k0 : V.heap[B]? = some (.cells #[v0] 30 (0, 0))) (k1 : V.heap[q1]? = some (.cells cs 26 (0, 0))) (k2 : V.heap[q2]? = some (.cells #[v2] 3 (0, 0))) (k3 : V.heap[q3]? = some (.cells #[v3] 27 (0, 0)))
    (hb : Below B w V) (tmps : Array Value) (e2 : tmps.getD 2 undef = .pointer (some ⟨B, 0, none⟩)) (e3 : tmps.getD 3 undef = .pointer (some ⟨q1, 0, none⟩)) (e4 : tmps.getD 4 undef = .pointer (some ⟨q2, 0, none⟩)) (e5 : tmps.getD 5 undef = .pointer (some ⟨q3, 0, none⟩)) (R : Ending → World → Prop)
    (hR : ∀ w', Below B w w' → R (.returned (.tuple #[.int .i64 0, .agg #[.int .i64 0, .int .i64 0, .int .i64 0, .int .i64 0, .int .u32 0, .int .u64 0, .int .u32 0, .int .i64 0, .int .i64 0, .slice none 0 0, .slice none 0 0], .int .i64 at_, .int .i64 why])) w') :
    Leaves Tryd.prog Tryd.f9 tmps R [{ target := .fn (.func 29) #[.pointer (some ⟨B, 0, none⟩), .pointer (some ⟨q1, 0, none⟩), .pointer (some ⟨q2, 0, none⟩), .pointer (some ⟨q3, 0, none⟩)], args := #[] }] (.panicking (flt at_ why)) V := by
  refine leaves_cons (f := 29) (args := #[.pointer (some ⟨B, 0, none⟩), .pointer (some ⟨q1, 0, none⟩), .pointer (some ⟨q2, 0, none⟩), .pointer (some ⟨q3, 0, none⟩)]) (by simp) (by simp [go_sem]) ?_
  refine (caught B q1 q2 q3 h1 h2 h3 at_ why v0 v2 v3 cs hcs V k0 k1 k2 k3).mono ?_
  rintro e u' w'' ⟨rfl, rfl, ⟨t0, t1, t2, t3⟩, hb'⟩
  refine ⟨_, results_readE _ w'' B q1 q2 q3 0 at_ why #[.int .i64 0, .int .i64 0, .int .i64 0, .int .i64 0, .int .u32 0, .int .u64 0, .int .u32 0, .int .i64 0, .int .i64 0, .slice none 0 0, .slice none 0 0] e2 e3 e4 e5 (blk_cell (i := 0) t0 rfl) t1 (blk_cell (i := 0) t2 rfl) (blk_cell (i := 0) t3 rfl) (by kernel_rfl), ?_⟩
  exact hR _ (hb.trans hb')
set_option maxRecDepth 100000 in
set_option maxHeartbeats 4000000 in
theorem readA (w0 : List Int) (ws : List (List Int)) (m : Int) (es er : Value) (w : World) (b0 : Byt w0) (bs : ∀ v ∈ ws, Byt v) (h0 : ∀ z ∈ w0, z ≠ 32) (hs : ∀ v ∈ ws, ∀ z ∈ v, z ≠ 32) (hl : (w0 ++ joinI ws).length ≤ 512) (hw : Rw w m es er) :
    Calls Tryd.prog 9 #[.string (strOfNums (w0 ++ joinI ws))] w (ReadPost (rdF w0 ws) w) := by
  have hmf : ∀ (fn : Fn) (first cap : Array Value) (w : World), (Instr.makeFunc fn first cap).run Tryd.prog w = .ok (.func fn first cap) w := fun _ _ _ _ => rfl
  have hsz : ¬ (512 : Int) < (((strOfNums (w0 ++ joinI ws)).size : Nat) : Int) := by rw [strOf_size]; omega
  have HRL : Hid (∀ W : World, Below w.heap.size w W → Calls Tryd.prog 30 #[.string (strOfNums (w0 ++ joinI ws))] W (LinePost w0 ws W)) := fun W hb => readLA w0 ws m es er W b0 bs h0 hs hl (hw.below hb)
  clear hw hl b0 bs h0 hs
  generalize strOfNums (w0 ++ joinI ws) = line at *
  have b0 := ((((Below.refl w.heap.size w).alloc (Nat.le_refl _) (.cells #[.int .i64 0] 30)).alloc (by simp) (.cells #[.int .i64 0, .int .i64 0, .int .i64 0, .int .i64 0, .int .u32 0, .int .u64 0, .int .u32 0, .int .i64 0, .int .i64 0, .slice none 0 0, .slice none 0 0] 26)).alloc (by simp; omega) (.cells #[.int .i64 0] 3)).alloc (by simp; omega) (.cells #[.int .i64 0] 27)
  go_enter_defers Tryd.func9, Tryd.ntmps9
  refine wp_seq_k fun KK hK => ?_
  have HK := TW.hide hK
  clear hK
  go_wp2
  refine HK.out _ _ ?_
  clear HK KK
  have k0 : ((((w.alloc (.cells #[.int .i64 0] 30)).alloc (.cells #[.int .i64 0, .int .i64 0, .int .i64 0, .int .i64 0, .int .u32 0, .int .u64 0, .int .u32 0, .int .i64 0, .int .i64 0, .slice none 0 0, .slice none 0 0] 26)).alloc (.cells #[.int .i64 0] 3)).alloc (.cells #[.int .i64 0] 27)).heap[w.heap.size]? = some (.cells #[.int .i64 0] 30 (0, 0)) := blk_alloc (blk_alloc (blk_alloc (heap_alloc_new w _)))
  have k1 : ((((w.alloc (.cells #[.int .i64 0] 30)).alloc (.cells #[.int .i64 0, .int .i64 0, .int .i64 0, .int .i64 0, .int .u32 0, .int .u64 0, .int .u32 0, .int .i64 0, .int .i64 0, .slice none 0 0, .slice none 0 0] 26)).alloc (.cells #[.int .i64 0] 3)).alloc (.cells #[.int .i64 0] 27)).heap[w.heap.size + 1]? = some (.cells #[.int .i64 0, .int .i64 0, .int .i64 0, .int .i64 0, .int .u32 0, .int .u64 0, .int .u32 0, .int .i64 0, .int .i64 0, .slice none 0 0, .slice none 0 0] 26 (0, 0)) := by
    have := heap_alloc_new (w.alloc (.cells #[.int .i64 0] 30)) (.cells #[.int .i64 0, .int .i64 0, .int .i64 0, .int .i64 0, .int .u32 0, .int .u64 0, .int .u32 0, .int .i64 0, .int .i64 0, .slice none 0 0, .slice none 0 0] 26)
    rw [show (w.alloc (.cells #[.int .i64 0] 30)).heap.size = w.heap.size + 1 by simp] at this
    exact blk_alloc (blk_alloc this)
  have k2 : ((((w.alloc (.cells #[.int .i64 0] 30)).alloc (.cells #[.int .i64 0, .int .i64 0, .int .i64 0, .int .i64 0, .int .u32 0, .int .u64 0, .int .u32 0, .int .i64 0, .int .i64 0, .slice none 0 0, .slice none 0 0] 26)).alloc (.cells #[.int .i64 0] 3)).alloc (.cells #[.int .i64 0] 27)).heap[w.heap.size + 1 + 1]? = some (.cells #[.int .i64 0] 3 (0, 0)) := by
    have := heap_alloc_new ((w.alloc (.cells #[.int .i64 0] 30)).alloc (.cells #[.int .i64 0, .int .i64 0, .int .i64 0, .int .i64 0, .int .u32 0, .int .u64 0, .int .u32 0, .int .i64 0, .int .i64 0, .slice none 0 0, .slice none 0 0] 26)) (.cells #[.int .i64 0] 3)
    rw [show ((w.alloc (.cells #[.int .i64 0] 30)).alloc (.cells #[.int .i64 0, .int .i64 0, .int .i64 0, .int .i64 0, .int .u32 0, .int .u64 0, .int .u32 0, .int .i64 0, .int .i64 0, .slice none 0 0, .slice none 0 0] 26)).heap.size = w.heap.size + 1 + 1 by simp] at this
    exact blk_alloc this
  have k3 : ((((w.alloc (.cells #[.int .i64 0] 30)).alloc (.cells #[.int .i64 0, .int .i64 0, .int .i64 0, .int .i64 0, .int .u32 0, .int .u64 0, .int .u32 0, .int .i64 0, .int .i64 0, .slice none 0 0, .slice none 0 0] 26)).alloc (.cells #[.int .i64 0] 3)).alloc (.cells #[.int .i64 0] 27)).heap[w.heap.size + 1 + 1 + 1]? = some (.cells #[.int .i64 0] 27 (0, 0)) := by
    have := heap_alloc_new (((w.alloc (.cells #[.int .i64 0] 30)).alloc (.cells #[.int .i64 0, .int .i64 0, .int .i64 0, .int .i64 0, .int .u32 0, .int .u64 0, .int .u32 0, .int .i64 0, .int .i64 0, .slice none 0 0, .slice none 0 0] 26)).alloc (.cells #[.int .i64 0] 3)) (.cells #[.int .i64 0] 27)
    rw [show (((w.alloc (.cells #[.int .i64 0] 30)).alloc (.cells #[.int .i64 0, .int .i64 0, .int .i64 0, .int .i64 0, .int .u32 0, .int .u64 0, .int .u32 0, .int .i64 0, .int .i64 0, .slice none 0 0, .slice none 0 0] 26)).alloc (.cells #[.int .i64 0] 3)).heap.size = w.heap.size + 1 + 1 + 1 by simp] at this
    exact this
  generalize (((w.alloc (.cells #[.int .i64 0] 30)).alloc (.cells #[.int .i64 0, .int .i64 0, .int .i64 0, .int .i64 0, .int .u32 0, .int .u64 0, .int .u32 0, .int .i64 0, .int .i64 0, .slice none 0 0, .slice none 0 0] 26)).alloc (.cells #[.int .i64 0] 3)).alloc (.cells #[.int .i64 0] 27) = X0 at *
  generalize hB : w.heap.size = B at *
  have B0 := TW.hide b0
  have K0 := TW.hide k0
  have K1 := TW.hide k1
  have K2 := TW.hide k2
  have K3 := TW.hide k3
  clear b0 k0 k1 k2 k3
  refine wp_seq_k fun KK hK => ?_
  have HK := TW.hide hK
  clear hK
  go_wp2_with fail
  refine HK.out _ _ ?_
  clear HK KK
  refine wp_seq_k fun KK hK => ?_
  have HK := TW.hide hK
  clear hK
  go_wp2_with fail
  refine HK.out _ _ ?_
  clear HK KK
  refine wp_seq_k fun KK hK => ?_
  have HK := TW.hide hK
  clear hK
  go_wp2_with fail
  refine (HRL.out _ B0.out).mono ?_
  rintro e X ⟨hb, hP⟩
  have k0 := TW.hide (blk_keep K0.out hb)
  have k1 := TW.hide (blk_keep K1.out hb)
  have k2 := TW.hide (blk_keep K2.out hb)
  have k3 := TW.hide (blk_keep K3.out hb)
  have BX : Hid (Below B w X) := below_row B0.out hb (by have := blk_lt K0.out; omega)
  clear hb K0 K1 K2 K3 B0 HRL
  generalize hq1 : B + 1 = q1 at *
  generalize hq2 : q1 + 1 = q2 at *
  generalize hq3 : q2 + 1 = q3 at *
  rcases hP with ⟨n1, n2, rfl⟩ | ⟨kd, hk, rfl, ⟨a, hr, rfl⟩ | ⟨st, g, hr, hst, rfl, hgB, hG⟩⟩
  · go_wp2_with fail
    have hF : rdF w0 ws = .inr (0, 4) := by simp [rdF, n1, n2]
    exact gaveUp B q1 q2 q3 (by omega) (by omega) (by omega) 0 4 _ _ _ _ rfl w X k0.out k1.out k2.out k3.out BX.out _ rfl rfl rfl rfl _ (fun w' hw' => by rw [hF]; refine ⟨?_, rfl⟩; show Below w.heap.size w w'; rw [hB]; exact hw')
  · go_wp2_with fail
    have hF : rdF (knL kd) ws = .inr (a, 4) := by rw [rdF_kn hk]; simp [rdK, hr]
    exact gaveUp B q1 q2 q3 (by omega) (by omega) (by omega) a 4 _ _ _ _ rfl w X k0.out k1.out k2.out k3.out BX.out _ rfl rfl rfl rfl _ (fun w' hw' => by rw [hF]; refine ⟨?_, rfl⟩; show Below w.heap.size w w'; rw [hB]; exact hw')
  go_wp2_with fail
  refine HK.out _ _ ?_
  clear HK KK
  have BXX := TW.hide (Below.refl X.heap.size X)
  have HKD : Hid (∀ Z : World, Below X.heap.size X Z → Z.cell? ⟨g, 0, none⟩ = some (.int .i64 kd)) := fun Z hZ => by
    obtain ⟨cs, a1, a2, c1, c2, hg⟩ := hG
    exact (hg.lc.below hZ).cell hg.kind
  have HGZ : Hid (∀ Z : World, Below X.heap.size X Z → Lrs Z g kd st) := fun Z hZ => by
    obtain ⟨cs, a1, a2, c1, c2, hg⟩ := hG
    exact ⟨cs, a1, a2, c1, c2, hg.lc.below hZ, hg.kind, hg.num, hg.salt, hg.pers, hg.s.below hZ, hg.t.below hZ, hg.ats, hg.rows, hg.wa, hg.ww⟩
  clear hG
  have hF := rdF_kn hk ws
  simp only [rdK, hr] at hF
  by_cases hgood : st.ww = 0 ∧ st.q.ck kd st.s.length st.t.length = 0
  rotate_left
  · obtain ⟨at_, why, HST, hF⟩ : ∃ at_ why, Hid (∀ W : World, Lrs W g kd st → Calls Tryd.prog 31 #[.pointer (some ⟨g, 0, none⟩)] W fun e w' => e = .panicked (flt at_ why) ∧ Below W.heap.size W w') ∧ rdF (knL kd) ws = .inr (at_, why) := by
      by_cases hww : st.ww = 0
      · have hck : ¬ st.q.ck kd st.s.length st.t.length = 0 := fun h => hgood ⟨hww, h⟩
        rw [if_pos hww, if_neg hck] at hF
        exact ⟨_, _, fun W hG => settleE g kd st _ _ _ _ rfl rfl rfl rfl hst.ok W hG hww _ rfl hck, hF⟩
      · rw [if_neg hww] at hF
        exact ⟨_, _, fun W hG => settleWide g kd st W hG hww, hF⟩
    clear hgood hst
    refine wp_seq_k fun KK hK => ?_
    clear hK
    refine Code.wp_mono (Q := GaveQ B q1 q2 q3 at_ why w) (fun e a V h => ?_) ?_
    · cases e with
      | panic c =>
        obtain ⟨rfl, hd, e2, e3, e4, e5, ⟨v0, cs, v2, v3, hcs, t0, t1, t2, t3⟩, hb⟩ := h
        show Leaves _ _ a.tmps _ a.defers _ V
        rw [hd]
        exact gaveUp B q1 q2 q3 (by omega) (by omega) (by omega) at_ why _ _ _ _ hcs w V t0 t1 t2 t3 hb _ e2 e3 e4 e5 _ (fun w' hw' => by rw [hF]; refine ⟨?_, rfl⟩; show Below w.heap.size w w'; rw [hB]; exact hw')
      | _ => exact h.elim
    refine RG.wp_region_L (fun Z => Below X.heap.size X Z) (fun Z => True) [6, 7, 8, 9] (by kernel_rfl) ?_
    refine RG.wpL_any fun Y hY => ?_
    have HY : Hid (Below X.heap.size X Y) := by rw [hY]; exact BXX.out.drew
    clear hY
    refine RG.wpL_takeQ (fuel := 5) (a' := ?Ab) [0, 1, 2, 3, 4] (by kernel_rfl) (by kernel_rfl) ?hq trivial (fun _ => HY.out) ?rb ?_
    case hq =>
      intro i hi o ho c a v V h
      simp only [List.mem_cons, List.not_mem_nil, or_false] at hi
      rcases hi with rfl | rfl | rfl | rfl | rfl <;> (simp at ho; subst ho; exact GaveQ.put (by omega) h)
    case rb =>
      refine RG.RunsIf.weak (v := ?_) (by rfl) (by rfl) (fun Z hT => ?_) ?_
      rotate_left
      · go_simp
        rfl
      simp only [Act.put, List.setIfInBounds_toArray, List.set_cons_zero, List.set_cons_succ, List.getElem_toArray, List.getElem_cons_zero, List.getElem_cons_succ]
      refine RG.RunsIf.weak (v := ?_) (by rfl) (by rfl) (fun Z hT => ?_) ?_
      rotate_left
      · go_simp
        rfl
      simp only [Act.put, List.setIfInBounds_toArray, List.set_cons_zero, List.set_cons_succ, List.getElem_toArray, List.getElem_cons_zero, List.getElem_cons_succ]
      refine RG.RunsIf.weak (v := ?_) (by rfl) (by rfl) (fun Z hT => ?_) ?_
      rotate_left
      · go_simp
        rfl
      simp only [Act.put, List.setIfInBounds_toArray, List.set_cons_zero, List.set_cons_succ, List.getElem_toArray, List.getElem_cons_zero, List.getElem_cons_succ]
      refine RG.RunsIf.strong (v := .int .i64 kd) (by rfl) (by kernel_rfl) (by rfl) (fun Z hT hS => ?_) ?_
      · have cz := HKD.out Z hS
        go_simp
      simp only [Act.put, List.setIfInBounds_toArray, List.set_cons_zero, List.set_cons_succ, List.getElem_toArray, List.getElem_cons_zero, List.getElem_cons_succ]
      refine RG.RunsIf.weak (v := ?_) (by rfl) (by rfl) (fun Z hT => ?_) ?_
      rotate_left
      · go_simp
        rfl
      simp only [Act.put, List.setIfInBounds_toArray, List.set_cons_zero, List.set_cons_succ, List.getElem_toArray, List.getElem_cons_zero, List.getElem_cons_succ]
      exact RG.RunsIf.nil
    refine RG.wpL_step (i := 5) (by kernel_rfl) (by rfl) (by rfl) (fun KX hK => ?_)
    have HK := TW.hide hK
    clear hK
    go_simp
    refine (HST.out _ (HGZ.out _ HY.out)).mono ?_
    rintro e V ⟨rfl, hb⟩
    have BV : Hid (Below X.heap.size X V) := below_row HY.out hb HY.out.size
    have hl := blk_lt k3.out
    exact ⟨rfl, rfl, rfl, rfl, rfl, rfl, ⟨_, _, _, _, rfl, blk_keep k0.out BV.out, blk_keep k1.out BV.out, blk_keep k2.out BV.out, blk_keep k3.out BV.out⟩, below_row BX.out BV.out (by omega)⟩
  rw [if_pos hgood.1, if_pos hgood.2] at hF
  have HST : Hid (∀ g W, Lrs W g kd st → Calls Tryd.prog 31 #[.pointer (some ⟨g, 0, none⟩)] W fun e w' => ∃ b1 d1 b2 d2, e = .returned (.agg (pcP st.q (.slice b1 (tr st.s).length d1) (.slice b2 (tr st.t).length d2))) ∧ Pn w' W.heap.size b1 d1 (tr st.s) ∧ Pn w' W.heap.size b2 d2 (tr st.t) ∧ Below W.heap.size W w') := fun g W hG => settleOk g kd st _ _ _ rfl rfl rfl hst.ok hst.ls hst.lt W hG hgood.1 hgood.2
  clear hgood hst
  refine wp_seq_k fun KK hK => ?_
  have HKK := TW.hide hK
  clear hK
  refine wp_region_noPanic ?_
  refine RG.wp_region_L (fun Z => Below X.heap.size X Z) (fun Z => True) [6, 7, 8, 9] (by kernel_rfl) ?_
  refine RG.wpL_any fun Y hY => ?_
  have HY : Hid (Below X.heap.size X Y) := by rw [hY]; exact BXX.out.drew
  clear hY
  refine RG.wpL_take (fuel := 5) (a' := ?Aa) [0, 1, 2, 3, 4] (by kernel_rfl) (by kernel_rfl) (fun _ _ _ _ _ h => h) trivial (fun _ => HY.out) ?ra ?_
  case ra =>
    refine RG.RunsIf.weak (v := ?_) (by rfl) (by rfl) (fun Z hT => ?_) ?_
    rotate_left
    · go_simp
      rfl
    simp only [Act.put, List.setIfInBounds_toArray, List.set_cons_zero, List.set_cons_succ, List.getElem_toArray, List.getElem_cons_zero, List.getElem_cons_succ]
    refine RG.RunsIf.weak (v := ?_) (by rfl) (by rfl) (fun Z hT => ?_) ?_
    rotate_left
    · go_simp
      rfl
    simp only [Act.put, List.setIfInBounds_toArray, List.set_cons_zero, List.set_cons_succ, List.getElem_toArray, List.getElem_cons_zero, List.getElem_cons_succ]
    refine RG.RunsIf.weak (v := ?_) (by rfl) (by rfl) (fun Z hT => ?_) ?_
    rotate_left
    · go_simp
      rfl
    simp only [Act.put, List.setIfInBounds_toArray, List.set_cons_zero, List.set_cons_succ, List.getElem_toArray, List.getElem_cons_zero, List.getElem_cons_succ]
    refine RG.RunsIf.strong (v := .int .i64 kd) (by rfl) (by kernel_rfl) (by rfl) (fun Z hT hS => ?_) ?_
    · have cz := HKD.out Z hS
      go_simp
    simp only [Act.put, List.setIfInBounds_toArray, List.set_cons_zero, List.set_cons_succ, List.getElem_toArray, List.getElem_cons_zero, List.getElem_cons_succ]
    refine RG.RunsIf.weak (v := ?_) (by rfl) (by rfl) (fun Z hT => ?_) ?_
    rotate_left
    · go_simp
      rfl
    simp only [Act.put, List.setIfInBounds_toArray, List.set_cons_zero, List.set_cons_succ, List.getElem_toArray, List.getElem_cons_zero, List.getElem_cons_succ]
    exact RG.RunsIf.nil
  refine RG.wpL_step (i := 5) (by kernel_rfl) (by rfl) (by rfl) (fun KX hK => ?_)
  have HK := TW.hide hK
  clear hK
  go_simp
  refine (HST.out g _ (HGZ.out _ HY.out)).mono ?_
  rintro e V ⟨b1, d1, b2, d2, rfl, hp1, hp2, hb⟩
  have BV : Hid (Below X.heap.size X V) := below_row HY.out hb HY.out.size
  have P1 := TW.hide (hp1.mono (B' := X.heap.size) HY.out.size)
  have P2 := TW.hide (hp2.mono (B' := X.heap.size) HY.out.size)
  refine HK.out _ _ trivial (fun _ => BV.out) ?_
  clear HK KX hb hp1 hp2 HST HGZ HKD
  have hl := blk_lt k3.out
  have v0 := blk_keep k0.out BV.out
  have v1 := blk_keep k1.out BV.out
  have v2 := blk_keep k2.out BV.out
  have v3 := blk_keep k3.out BV.out
  have BW : Hid (Below B w V) := below_row BX.out BV.out (by omega)
  clear k0 k1 k2 k3 BV BX BXX HY
  generalize hS' : tr st.s = S' at *
  generalize hT' : tr st.t = T' at *
  generalize hp' : st.q = p at *
  have ca := blk_cell (i := 0) v0 rfl
  have fa : V.frozen? ⟨B, 0, none⟩ = false := by simp [World.frozen?, v0]
  have a0 := blk_set (i := 0) (u := .int .i64 kd) v0
  have a1 := blk_other (p := B) (o := 0) (u := .int .i64 kd) v1 (by omega)
  have a2 := blk_other (p := B) (o := 0) (u := .int .i64 kd) v2 (by omega)
  have a3 := blk_other (p := B) (o := 0) (u := .int .i64 kd) v3 (by omega)
  have PA1 := TW.hide (P1.out.set (g := B) (i := 0) (by omega) (.int .i64 kd))
  have PA2 := TW.hide (P2.out.set (g := B) (i := 0) (by omega) (.int .i64 kd))
  have BA : Hid (Below B w (V.setCell ⟨B, 0, none⟩ (.int .i64 kd))) := BW.out.setCell (Nat.le_refl _) _
  clear v0 v1 v2 v3 P1 P2 BW
  refine RG.wpL_late (i := 6) (by kernel_rfl) (by rfl) (by rfl) (by kernel_rfl) (fun KX hK => ?_)
  have HK := TW.hide hK
  clear hK
  go_simp
  refine HK.out _ _ trivial ?_
  clear HK KX
  clear ca fa
  generalize V.setCell ⟨B, 0, none⟩ (.int .i64 kd) = V1 at *
  have r0 : (V1.setRow q1 (pcP p (.slice b1 S'.length d1) (.slice b2 T'.length d2))).heap[B]? = _ := (setRow_other _ _ _ _ (by omega)).trans a0
  have r1 := setRow_heap _ _ _ (pcP p (.slice b1 S'.length d1) (.slice b2 T'.length d2)) _ _ a1
  have r2 : (V1.setRow q1 (pcP p (.slice b1 S'.length d1) (.slice b2 T'.length d2))).heap[q2]? = _ := (setRow_other _ _ _ _ (by omega)).trans a2
  have r3 : (V1.setRow q1 (pcP p (.slice b1 S'.length d1) (.slice b2 T'.length d2))).heap[q3]? = _ := (setRow_other _ _ _ _ (by omega)).trans a3
  have PB1 := TW.hide (PA1.out.setRow (g := q1) (by omega) (pcP p (.slice b1 S'.length d1) (.slice b2 T'.length d2)))
  have PB2 := TW.hide (PA2.out.setRow (g := q1) (by omega) (pcP p (.slice b1 S'.length d1) (.slice b2 T'.length d2)))
  have BB : Hid (Below B w (V1.setRow q1 (pcP p (.slice b1 S'.length d1) (.slice b2 T'.length d2)))) := below_setRow BA.out (by omega)
  refine RG.wpL_late (i := 7) (by kernel_rfl) (by rfl) (by rfl) (by kernel_rfl) (fun KX hK => ?_)
  have HK := TW.hide hK
  clear hK
  refine wp_store_row 26 _ _ (by rfl) q1 (pcP p (.slice b1 S'.length d1) (.slice b2 T'.length d2)) (by rfl) (by rfl) 26 _ a1 (info31 _ _ _) (pc_size Pm.zero _ _ _ _ _) (pc_one _ _ _ _ _ _ _) ?_
  simp only [Act.put, List.setIfInBounds_toArray, List.set_cons_zero, List.set_cons_succ, List.getElem_toArray, List.getElem_cons_zero, List.getElem_cons_succ]
  refine HK.out _ _ trivial ?_
  clear HK KX
  clear a0 a1 a2 a3 PA1 PA2 BA
  generalize V1.setRow q1 (pcP p (.slice b1 S'.length d1) (.slice b2 T'.length d2)) = V2 at *
  have ca := blk_cell (i := 0) r2 rfl
  have fa : V2.frozen? ⟨q2, 0, none⟩ = false := by simp [World.frozen?, r2]
  have s0 := blk_other (p := q2) (o := 0) (u := .int .i64 0) r0 (by omega)
  have s1 := blk_other (p := q2) (o := 0) (u := .int .i64 0) r1 (by omega)
  have s2 := blk_set (i := 0) (u := .int .i64 0) r2
  have s3 := blk_other (p := q2) (o := 0) (u := .int .i64 0) r3 (by omega)
  have PC1 := TW.hide (PB1.out.set (g := q2) (i := 0) (by omega) (.int .i64 0))
  have PC2 := TW.hide (PB2.out.set (g := q2) (i := 0) (by omega) (.int .i64 0))
  have BC : Hid (Below B w (V2.setCell ⟨q2, 0, none⟩ (.int .i64 0))) := BB.out.setCell (show B ≤ q2 by omega) _
  clear r0 r1 r2 r3 PB1 PB2 BB
  refine RG.wpL_late (i := 8) (by kernel_rfl) (by rfl) (by rfl) (by kernel_rfl) (fun KX hK => ?_)
  have HK := TW.hide hK
  clear hK
  go_simp
  refine HK.out _ _ trivial ?_
  clear HK KX
  clear ca fa
  generalize V2.setCell ⟨q2, 0, none⟩ (.int .i64 0) = V3 at *
  have ca := blk_cell (i := 0) s3 rfl
  have fa : V3.frozen? ⟨q3, 0, none⟩ = false := by simp [World.frozen?, s3]
  have t0 := blk_other (p := q3) (o := 0) (u := .int .i64 0) s0 (by omega)
  have t1 := blk_other (p := q3) (o := 0) (u := .int .i64 0) s1 (by omega)
  have t2 := blk_other (p := q3) (o := 0) (u := .int .i64 0) s2 (by omega)
  have t3 := blk_set (i := 0) (u := .int .i64 0) s3
  have PD1 := TW.hide (PC1.out.set (g := q3) (i := 0) (by omega) (.int .i64 0))
  have PD2 := TW.hide (PC2.out.set (g := q3) (i := 0) (by omega) (.int .i64 0))
  have BD : Hid (Below B w (V3.setCell ⟨q3, 0, none⟩ (.int .i64 0))) := BC.out.setCell (show B ≤ q3 by omega) _
  clear s0 s1 s2 s3 PC1 PC2 BC
  refine RG.wpL_late (i := 9) (by kernel_rfl) (by rfl) (by rfl) (by kernel_rfl) (fun KX hK => ?_)
  have HK := TW.hide hK
  clear hK
  go_simp
  refine HK.out _ _ trivial ?_
  clear HK KX
  clear ca fa
  generalize V3.setCell ⟨q3, 0, none⟩ (.int .i64 0) = V4 at *
  refine RG.wpL_done (by kernel_rfl) ?_ _
  refine NoPanic.normal ?_
  refine HKK.out _ _ ?_
  clear HKK KK
  go_wp2
  refine leaves_cons (f := 29) (args := #[.pointer (some ⟨B, 0, none⟩), .pointer (some ⟨q1, 0, none⟩), .pointer (some ⟨q2, 0, none⟩), .pointer (some ⟨q3, 0, none⟩)]) (by simp) (by simp [go_sem]) ?_
  refine (idle _ _ _ _ _).mono ?_
  rintro e u' w'' ⟨rfl, rfl, rfl⟩
  refine ⟨_, results_readE _ w'' B q1 q2 q3 kd 0 0 (pcP p (.slice b1 S'.length d1) (.slice b2 T'.length d2)) rfl rfl rfl rfl (blk_cell (i := 0) t0 rfl) t1 (blk_cell (i := 0) t2 rfl) (blk_cell (i := 0) t3 rfl) (info31 _ _ _), ?_⟩
  rw [hF]
  subst hS' hT' hp'
  refine ⟨?_, ?_⟩
  · show Below w.heap.size w w''
    rw [hB]
    exact BD.out
  exact ⟨b1, d1, b2, d2, rfl, PD1.out.toPb, PD2.out.toPb⟩
end LW
end Go.Proofs.YteakoajkmcbilabDoor
