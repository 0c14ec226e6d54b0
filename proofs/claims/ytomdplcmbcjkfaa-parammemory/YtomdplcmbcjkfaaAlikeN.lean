/-
  What the call Alike (the document's) gives at parameters whose numbers are not the same: false.
-/
import Derived.Test.YtomdplcmbcjkfaaCheck
import Derived.Test.YtomdplcmbcjkfaaSame
namespace Go.Proofs.Ytomdplcmbcjkfaa
open Go.RowKit
set_option linter.unusedVariables false
namespace LW
open Words
theorem wpList_val {P : Program} {ops : Array Oper} {Q : Exit → Act → World → Prop} {a : Act} {w : World} {rest : List Oper} {o : Oper} (v : Value)
    (hw : Region.wanted o (yielded ops a.tmps) = true) (hr : (execOp a.eval o).run P w = .ok (.value v) w) (h : wpList P ops Q rest (a.put o.dst v) w) : wpList P ops Q (o :: rest) a w := by
  simp only [wpList, hw, if_true]
  left
  unfold Oper.wp
  rw [hr]
  exact h
theorem val_load {a : Act} {w : World} {o : Oper} {x : Operand} {t : TypeId} {b i : Nat} {v : Value} (ho : o.op = .load t x) (hx : a.eval x = .pointer (some ⟨b, i, none⟩)) (hl : (Instr.loadAt t (.pointer (some ⟨b, i, none⟩))).run Try.prog w = .ok v w) :
    (execOp a.eval o).run Try.prog w = .ok (.value v) w := by
  simp only [execOp, ho, hx, Sem.run_bind, hl, Result.andThen_ok, Sem.run_pure]
theorem val_eql {a : Act} {w : World} {o : Oper} {x y : Operand} {t t' : TypeId} {k : IntKind} {m n : Int} {b : Bool} (ho : o.op = .binOp .eql t x y t') (hx : a.eval x = .int k m) (hy : a.eval y = .int k n) (hb : (execOp a.eval o).run Try.prog w = .ok (.value (.bool (m == n))) w) (hmn : (m == n) = b) :
    (execOp a.eval o).run Try.prog w = .ok (.value (.bool b)) w := by rw [hb, hmn]
set_option maxRecDepth 100000 in
set_option maxHeartbeats 8000000 in
theorem ralikeN0 (d k f dp lf off xof nd inn d' k' f' dp' lf' off' xof' nd' inn' : Int) (sa ta sa' ta' : Option Addr) (sl tl sl' tl' sc tc sc' tc' : Nat) (w : World) (q : ¬ d = d') :
    Calls Try.prog 41 #[.agg (pc d k f dp lf off xof nd inn (.slice sa sl sc) (.slice ta tl tc)), .agg (pc d' k' f' dp' lf' off' xof' nd' inn' (.slice sa' sl' sc') (.slice ta' tl' tc'))] w fun e w' =>
      e = .returned (.bool false) ∧ Below w.heap.size w w' := by
  have hb := (((Below.refl w.heap.size w).alloc (Nat.le_refl _) (.cells #[.int .i64 d, .int .i64 k, .int .i64 f, .int .i64 dp, .int .u32 lf, .int .u64 off, .int .u32 xof, .int .i64 nd, .int .i64 inn, .slice sa sl sc, .slice ta tl tc] 26)).alloc (by simp) (.cells #[.int .i64 d', .int .i64 k', .int .i64 f', .int .i64 dp', .int .u32 lf', .int .u64 off', .int .u32 xof', .int .i64 nd', .int .i64 inn', .slice sa' sl' sc', .slice ta' tl' tc'] 26))
  have n0 := blk_alloc (o' := .cells #[.int .i64 d', .int .i64 k', .int .i64 f', .int .i64 dp', .int .u32 lf', .int .u64 off', .int .u32 xof', .int .i64 nd', .int .i64 inn', .slice sa' sl' sc', .slice ta' tl' tc'] 26) (heap_alloc_new w (.cells #[.int .i64 d, .int .i64 k, .int .i64 f, .int .i64 dp, .int .u32 lf, .int .u64 off, .int .u32 xof, .int .i64 nd, .int .i64 inn, .slice sa sl sc, .slice ta tl tc] 26))
  have n1 := heap_alloc_new (w.alloc (.cells #[.int .i64 d, .int .i64 k, .int .i64 f, .int .i64 dp, .int .u32 lf, .int .u64 off, .int .u32 xof, .int .i64 nd, .int .i64 inn, .slice sa sl sc, .slice ta tl tc] 26)) (.cells #[.int .i64 d', .int .i64 k', .int .i64 f', .int .i64 dp', .int .u32 lf', .int .u64 off', .int .u32 xof', .int .i64 nd', .int .i64 inn', .slice sa' sl' sc', .slice ta' tl' tc'] 26)
  rw [show (w.alloc (.cells #[.int .i64 d, .int .i64 k, .int .i64 f, .int .i64 dp, .int .u32 lf, .int .u64 off, .int .u32 xof, .int .i64 nd, .int .i64 inn, .slice sa sl sc, .slice ta tl tc] 26)).heap.size = w.heap.size + 1 by simp] at n1
  unfold pc
  go_enter Try.func41, Try.ntmps41
  refine wp_seq_k fun K hK => ?_
  have HK := TW.hide hK
  clear hK
  go_wp2
  refine HK.out _ _ ?_
  clear HK K
  generalize (w.alloc (.cells #[.int .i64 d, .int .i64 k, .int .i64 f, .int .i64 dp, .int .u32 lf, .int .u64 off, .int .u32 xof, .int .i64 nd, .int .i64 inn, .slice sa sl sc, .slice ta tl tc] 26)).alloc (.cells #[.int .i64 d', .int .i64 k', .int .i64 f', .int .i64 dp', .int .u32 lf', .int .u64 off', .int .u32 xof', .int .i64 nd', .int .i64 inn', .slice sa' sl' sc', .slice ta' tl' tc'] 26) = W at n0 n1 hb ⊢
  have g0 := blk_cell n0 (i := 0) (v := .int .i64 d) rfl
  have j0 := blk_cell n1 (i := 0) (v := .int .i64 d') rfl
  have l0 : (Instr.loadAt 3 (.pointer (some ⟨w.heap.size, 0, none⟩))).run Try.prog W = .ok (.int .i64 d) W := by go_simp
  have r0 : (Instr.loadAt 3 (.pointer (some ⟨w.heap.size + 1, 0, none⟩))).run Try.prog W = .ok (.int .i64 d') W := by go_simp
  have HB := TW.hide hb
  have ef : (d == d') = false := by simp [q]
  clear hb n0 n1
  generalize Value.agg #[.int .i64 d, .int .i64 k, .int .i64 f, .int .i64 dp, .int .u32 lf, .int .u64 off, .int .u32 xof, .int .i64 nd, .int .i64 inn, .slice sa sl sc, .slice ta tl tc] = V0
  generalize Value.agg #[.int .i64 d', .int .i64 k', .int .i64 f', .int .i64 dp', .int .u32 lf', .int .u64 off', .int .u32 xof', .int .i64 nd', .int .i64 inn', .slice sa' sl' sc', .slice ta' tl' tc'] = V1
  simp only [List.append_eq, List.cons_append, List.nil_append]
  refine wp_seq ?_
  refine wp_region_lit ?_
  refine wpList_val (.pointer (some ⟨w.heap.size, 0, none⟩)) (by kernel_rfl) (by kernel_rfl) ?_
  simp only [Act.put, List.setIfInBounds_toArray, List.set_cons_zero, List.set_cons_succ]
  refine wpList_val (.int .i64 d) (by kernel_rfl) (val_load rfl (by kernel_rfl) l0) ?_
  simp only [Act.put, List.setIfInBounds_toArray, List.set_cons_zero, List.set_cons_succ]
  refine wpList_val (.pointer (some ⟨w.heap.size + 1, 0, none⟩)) (by kernel_rfl) (by kernel_rfl) ?_
  simp only [Act.put, List.setIfInBounds_toArray, List.set_cons_zero, List.set_cons_succ]
  refine wpList_val (.int .i64 d') (by kernel_rfl) (val_load rfl (by kernel_rfl) r0) ?_
  simp only [Act.put, List.setIfInBounds_toArray, List.set_cons_zero, List.set_cons_succ]
  refine wpList_val (.bool false) (by kernel_rfl) (val_eql (m := d) (n := d') (k := .i64) rfl (by kernel_rfl) (by kernel_rfl) (by kernel_rfl) ef) ?_
  refine wpList_val (.bool false) rfl rfl ?_
  simp only [Act.put, List.setIfInBounds_toArray, List.set_cons_zero, List.set_cons_succ]
  go_skip
  refine wpList_val (.bool false) rfl rfl ?_
  refine wpList_val (.bool false) rfl rfl ?_
  simp only [Act.put, List.setIfInBounds_toArray, List.set_cons_zero, List.set_cons_succ]
  go_skip
  refine wpList_val (.bool false) rfl rfl ?_
  refine wpList_val (.bool false) rfl rfl ?_
  simp only [Act.put, List.setIfInBounds_toArray, List.set_cons_zero, List.set_cons_succ]
  go_skip
  refine wpList_val (.bool false) rfl rfl ?_
  refine wpList_val (.bool false) rfl rfl ?_
  simp only [Act.put, List.setIfInBounds_toArray, List.set_cons_zero, List.set_cons_succ]
  go_skip
  refine wpList_val (.bool false) rfl rfl ?_
  refine wpList_val (.bool false) rfl rfl ?_
  simp only [Act.put, List.setIfInBounds_toArray, List.set_cons_zero, List.set_cons_succ]
  go_skip
  refine wpList_val (.bool false) rfl rfl ?_
  refine wpList_val (.bool false) rfl rfl ?_
  simp only [Act.put, List.setIfInBounds_toArray, List.set_cons_zero, List.set_cons_succ]
  go_skip
  refine wpList_val (.bool false) rfl rfl ?_
  refine wpList_val (.bool false) rfl rfl ?_
  simp only [Act.put, List.setIfInBounds_toArray, List.set_cons_zero, List.set_cons_succ]
  go_skip
  refine wpList_val (.bool false) rfl rfl ?_
  refine wpList_val (.bool false) rfl rfl ?_
  simp only [Act.put, List.setIfInBounds_toArray, List.set_cons_zero, List.set_cons_succ]
  go_skip
  refine wpList_val (.bool false) rfl rfl ?_
  refine wpList_val (.bool false) rfl rfl ?_
  simp only [Act.put, List.setIfInBounds_toArray, List.set_cons_zero, List.set_cons_succ]
  go_skip
  refine wpList_val (.bool false) rfl rfl ?_
  refine wpList_val (.bool false) rfl rfl ?_
  simp only [Act.put, List.setIfInBounds_toArray, List.set_cons_zero, List.set_cons_succ]
  go_skip
  refine wpList_val (.bool false) rfl rfl ?_
  refine wpList_val (.bool false) rfl rfl ?_
  simp only [Act.put, List.setIfInBounds_toArray, List.set_cons_zero, List.set_cons_succ]
  refine wpList_nil ?_
  simp only [Exit.then]
  refine wp_ret ?_
  refine bodyPost_ret (results_tmp Try.results41 _ _ _) rfl ?_
  exact ⟨rfl, HB.out⟩
set_option maxRecDepth 100000 in
set_option maxHeartbeats 8000000 in
theorem ralikeN1 (d k f dp lf off xof nd inn k' f' dp' lf' off' xof' nd' inn' : Int) (sa ta sa' ta' : Option Addr) (sl tl sl' tl' sc tc sc' tc' : Nat) (w : World) (q : ¬ k = k') :
    Calls Try.prog 41 #[.agg (pc d k f dp lf off xof nd inn (.slice sa sl sc) (.slice ta tl tc)), .agg (pc d k' f' dp' lf' off' xof' nd' inn' (.slice sa' sl' sc') (.slice ta' tl' tc'))] w fun e w' =>
      e = .returned (.bool false) ∧ Below w.heap.size w w' := by
  have hb := (((Below.refl w.heap.size w).alloc (Nat.le_refl _) (.cells #[.int .i64 d, .int .i64 k, .int .i64 f, .int .i64 dp, .int .u32 lf, .int .u64 off, .int .u32 xof, .int .i64 nd, .int .i64 inn, .slice sa sl sc, .slice ta tl tc] 26)).alloc (by simp) (.cells #[.int .i64 d, .int .i64 k', .int .i64 f', .int .i64 dp', .int .u32 lf', .int .u64 off', .int .u32 xof', .int .i64 nd', .int .i64 inn', .slice sa' sl' sc', .slice ta' tl' tc'] 26))
  have n0 := blk_alloc (o' := .cells #[.int .i64 d, .int .i64 k', .int .i64 f', .int .i64 dp', .int .u32 lf', .int .u64 off', .int .u32 xof', .int .i64 nd', .int .i64 inn', .slice sa' sl' sc', .slice ta' tl' tc'] 26) (heap_alloc_new w (.cells #[.int .i64 d, .int .i64 k, .int .i64 f, .int .i64 dp, .int .u32 lf, .int .u64 off, .int .u32 xof, .int .i64 nd, .int .i64 inn, .slice sa sl sc, .slice ta tl tc] 26))
  have n1 := heap_alloc_new (w.alloc (.cells #[.int .i64 d, .int .i64 k, .int .i64 f, .int .i64 dp, .int .u32 lf, .int .u64 off, .int .u32 xof, .int .i64 nd, .int .i64 inn, .slice sa sl sc, .slice ta tl tc] 26)) (.cells #[.int .i64 d, .int .i64 k', .int .i64 f', .int .i64 dp', .int .u32 lf', .int .u64 off', .int .u32 xof', .int .i64 nd', .int .i64 inn', .slice sa' sl' sc', .slice ta' tl' tc'] 26)
  rw [show (w.alloc (.cells #[.int .i64 d, .int .i64 k, .int .i64 f, .int .i64 dp, .int .u32 lf, .int .u64 off, .int .u32 xof, .int .i64 nd, .int .i64 inn, .slice sa sl sc, .slice ta tl tc] 26)).heap.size = w.heap.size + 1 by simp] at n1
  unfold pc
  go_enter Try.func41, Try.ntmps41
  refine wp_seq_k fun K hK => ?_
  have HK := TW.hide hK
  clear hK
  go_wp2
  refine HK.out _ _ ?_
  clear HK K
  generalize (w.alloc (.cells #[.int .i64 d, .int .i64 k, .int .i64 f, .int .i64 dp, .int .u32 lf, .int .u64 off, .int .u32 xof, .int .i64 nd, .int .i64 inn, .slice sa sl sc, .slice ta tl tc] 26)).alloc (.cells #[.int .i64 d, .int .i64 k', .int .i64 f', .int .i64 dp', .int .u32 lf', .int .u64 off', .int .u32 xof', .int .i64 nd', .int .i64 inn', .slice sa' sl' sc', .slice ta' tl' tc'] 26) = W at n0 n1 hb ⊢
  have g0 := blk_cell n0 (i := 0) (v := .int .i64 d) rfl
  have j0 := blk_cell n1 (i := 0) (v := .int .i64 d) rfl
  have l0 : (Instr.loadAt 3 (.pointer (some ⟨w.heap.size, 0, none⟩))).run Try.prog W = .ok (.int .i64 d) W := by go_simp
  have r0 : (Instr.loadAt 3 (.pointer (some ⟨w.heap.size + 1, 0, none⟩))).run Try.prog W = .ok (.int .i64 d) W := by go_simp
  have g1 := blk_cell n0 (i := 1) (v := .int .i64 k) rfl
  have j1 := blk_cell n1 (i := 1) (v := .int .i64 k') rfl
  have l1 : (Instr.loadAt 3 (.pointer (some ⟨w.heap.size, 1, none⟩))).run Try.prog W = .ok (.int .i64 k) W := by go_simp
  have r1 : (Instr.loadAt 3 (.pointer (some ⟨w.heap.size + 1, 1, none⟩))).run Try.prog W = .ok (.int .i64 k') W := by go_simp
  have HB := TW.hide hb
  have ef : (k == k') = false := by simp [q]
  clear hb n0 n1
  generalize Value.agg #[.int .i64 d, .int .i64 k, .int .i64 f, .int .i64 dp, .int .u32 lf, .int .u64 off, .int .u32 xof, .int .i64 nd, .int .i64 inn, .slice sa sl sc, .slice ta tl tc] = V0
  generalize Value.agg #[.int .i64 d, .int .i64 k', .int .i64 f', .int .i64 dp', .int .u32 lf', .int .u64 off', .int .u32 xof', .int .i64 nd', .int .i64 inn', .slice sa' sl' sc', .slice ta' tl' tc'] = V1
  simp only [List.append_eq, List.cons_append, List.nil_append]
  refine wp_seq ?_
  refine wp_region_lit ?_
  refine wpList_val (.pointer (some ⟨w.heap.size, 0, none⟩)) (by kernel_rfl) (by kernel_rfl) ?_
  simp only [Act.put, List.setIfInBounds_toArray, List.set_cons_zero, List.set_cons_succ]
  refine wpList_val (.int .i64 d) (by kernel_rfl) (val_load rfl (by kernel_rfl) l0) ?_
  simp only [Act.put, List.setIfInBounds_toArray, List.set_cons_zero, List.set_cons_succ]
  refine wpList_val (.pointer (some ⟨w.heap.size + 1, 0, none⟩)) (by kernel_rfl) (by kernel_rfl) ?_
  simp only [Act.put, List.setIfInBounds_toArray, List.set_cons_zero, List.set_cons_succ]
  refine wpList_val (.int .i64 d) (by kernel_rfl) (val_load rfl (by kernel_rfl) r0) ?_
  simp only [Act.put, List.setIfInBounds_toArray, List.set_cons_zero, List.set_cons_succ]
  refine wpList_val (.bool true) (by kernel_rfl) (val_eql (m := d) (n := d) (k := .i64) rfl (by kernel_rfl) (by kernel_rfl) (by kernel_rfl) (by simp)) ?_
  refine wpList_val (.bool true) rfl rfl ?_
  simp only [Act.put, List.setIfInBounds_toArray, List.set_cons_zero, List.set_cons_succ]
  refine wpList_val (.pointer (some ⟨w.heap.size, 1, none⟩)) (by kernel_rfl) (by kernel_rfl) ?_
  simp only [Act.put, List.setIfInBounds_toArray, List.set_cons_zero, List.set_cons_succ]
  refine wpList_val (.int .i64 k) (by kernel_rfl) (val_load rfl (by kernel_rfl) l1) ?_
  simp only [Act.put, List.setIfInBounds_toArray, List.set_cons_zero, List.set_cons_succ]
  refine wpList_val (.pointer (some ⟨w.heap.size + 1, 1, none⟩)) (by kernel_rfl) (by kernel_rfl) ?_
  simp only [Act.put, List.setIfInBounds_toArray, List.set_cons_zero, List.set_cons_succ]
  refine wpList_val (.int .i64 k') (by kernel_rfl) (val_load rfl (by kernel_rfl) r1) ?_
  simp only [Act.put, List.setIfInBounds_toArray, List.set_cons_zero, List.set_cons_succ]
  refine wpList_val (.bool false) (by kernel_rfl) (val_eql (m := k) (n := k') (k := .i64) rfl (by kernel_rfl) (by kernel_rfl) (by kernel_rfl) ef) ?_
  refine wpList_val (.bool false) rfl rfl ?_
  refine wpList_val (.bool false) rfl rfl ?_
  simp only [Act.put, List.setIfInBounds_toArray, List.set_cons_zero, List.set_cons_succ]
  go_skip
  refine wpList_val (.bool false) rfl rfl ?_
  refine wpList_val (.bool false) rfl rfl ?_
  simp only [Act.put, List.setIfInBounds_toArray, List.set_cons_zero, List.set_cons_succ]
  go_skip
  refine wpList_val (.bool false) rfl rfl ?_
  refine wpList_val (.bool false) rfl rfl ?_
  simp only [Act.put, List.setIfInBounds_toArray, List.set_cons_zero, List.set_cons_succ]
  go_skip
  refine wpList_val (.bool false) rfl rfl ?_
  refine wpList_val (.bool false) rfl rfl ?_
  simp only [Act.put, List.setIfInBounds_toArray, List.set_cons_zero, List.set_cons_succ]
  go_skip
  refine wpList_val (.bool false) rfl rfl ?_
  refine wpList_val (.bool false) rfl rfl ?_
  simp only [Act.put, List.setIfInBounds_toArray, List.set_cons_zero, List.set_cons_succ]
  go_skip
  refine wpList_val (.bool false) rfl rfl ?_
  refine wpList_val (.bool false) rfl rfl ?_
  simp only [Act.put, List.setIfInBounds_toArray, List.set_cons_zero, List.set_cons_succ]
  go_skip
  refine wpList_val (.bool false) rfl rfl ?_
  refine wpList_val (.bool false) rfl rfl ?_
  simp only [Act.put, List.setIfInBounds_toArray, List.set_cons_zero, List.set_cons_succ]
  go_skip
  refine wpList_val (.bool false) rfl rfl ?_
  refine wpList_val (.bool false) rfl rfl ?_
  simp only [Act.put, List.setIfInBounds_toArray, List.set_cons_zero, List.set_cons_succ]
  go_skip
  refine wpList_val (.bool false) rfl rfl ?_
  refine wpList_val (.bool false) rfl rfl ?_
  simp only [Act.put, List.setIfInBounds_toArray, List.set_cons_zero, List.set_cons_succ]
  go_skip
  refine wpList_val (.bool false) rfl rfl ?_
  refine wpList_val (.bool false) rfl rfl ?_
  simp only [Act.put, List.setIfInBounds_toArray, List.set_cons_zero, List.set_cons_succ]
  refine wpList_nil ?_
  simp only [Exit.then]
  refine wp_ret ?_
  refine bodyPost_ret (results_tmp Try.results41 _ _ _) rfl ?_
  exact ⟨rfl, HB.out⟩
set_option maxRecDepth 100000 in
set_option maxHeartbeats 8000000 in
theorem ralikeN2 (d k f dp lf off xof nd inn f' dp' lf' off' xof' nd' inn' : Int) (sa ta sa' ta' : Option Addr) (sl tl sl' tl' sc tc sc' tc' : Nat) (w : World) (q : ¬ f = f') :
    Calls Try.prog 41 #[.agg (pc d k f dp lf off xof nd inn (.slice sa sl sc) (.slice ta tl tc)), .agg (pc d k f' dp' lf' off' xof' nd' inn' (.slice sa' sl' sc') (.slice ta' tl' tc'))] w fun e w' =>
      e = .returned (.bool false) ∧ Below w.heap.size w w' := by
  have hb := (((Below.refl w.heap.size w).alloc (Nat.le_refl _) (.cells #[.int .i64 d, .int .i64 k, .int .i64 f, .int .i64 dp, .int .u32 lf, .int .u64 off, .int .u32 xof, .int .i64 nd, .int .i64 inn, .slice sa sl sc, .slice ta tl tc] 26)).alloc (by simp) (.cells #[.int .i64 d, .int .i64 k, .int .i64 f', .int .i64 dp', .int .u32 lf', .int .u64 off', .int .u32 xof', .int .i64 nd', .int .i64 inn', .slice sa' sl' sc', .slice ta' tl' tc'] 26))
  have n0 := blk_alloc (o' := .cells #[.int .i64 d, .int .i64 k, .int .i64 f', .int .i64 dp', .int .u32 lf', .int .u64 off', .int .u32 xof', .int .i64 nd', .int .i64 inn', .slice sa' sl' sc', .slice ta' tl' tc'] 26) (heap_alloc_new w (.cells #[.int .i64 d, .int .i64 k, .int .i64 f, .int .i64 dp, .int .u32 lf, .int .u64 off, .int .u32 xof, .int .i64 nd, .int .i64 inn, .slice sa sl sc, .slice ta tl tc] 26))
  have n1 := heap_alloc_new (w.alloc (.cells #[.int .i64 d, .int .i64 k, .int .i64 f, .int .i64 dp, .int .u32 lf, .int .u64 off, .int .u32 xof, .int .i64 nd, .int .i64 inn, .slice sa sl sc, .slice ta tl tc] 26)) (.cells #[.int .i64 d, .int .i64 k, .int .i64 f', .int .i64 dp', .int .u32 lf', .int .u64 off', .int .u32 xof', .int .i64 nd', .int .i64 inn', .slice sa' sl' sc', .slice ta' tl' tc'] 26)
  rw [show (w.alloc (.cells #[.int .i64 d, .int .i64 k, .int .i64 f, .int .i64 dp, .int .u32 lf, .int .u64 off, .int .u32 xof, .int .i64 nd, .int .i64 inn, .slice sa sl sc, .slice ta tl tc] 26)).heap.size = w.heap.size + 1 by simp] at n1
  unfold pc
  go_enter Try.func41, Try.ntmps41
  refine wp_seq_k fun K hK => ?_
  have HK := TW.hide hK
  clear hK
  go_wp2
  refine HK.out _ _ ?_
  clear HK K
  generalize (w.alloc (.cells #[.int .i64 d, .int .i64 k, .int .i64 f, .int .i64 dp, .int .u32 lf, .int .u64 off, .int .u32 xof, .int .i64 nd, .int .i64 inn, .slice sa sl sc, .slice ta tl tc] 26)).alloc (.cells #[.int .i64 d, .int .i64 k, .int .i64 f', .int .i64 dp', .int .u32 lf', .int .u64 off', .int .u32 xof', .int .i64 nd', .int .i64 inn', .slice sa' sl' sc', .slice ta' tl' tc'] 26) = W at n0 n1 hb ⊢
  have g0 := blk_cell n0 (i := 0) (v := .int .i64 d) rfl
  have j0 := blk_cell n1 (i := 0) (v := .int .i64 d) rfl
  have l0 : (Instr.loadAt 3 (.pointer (some ⟨w.heap.size, 0, none⟩))).run Try.prog W = .ok (.int .i64 d) W := by go_simp
  have r0 : (Instr.loadAt 3 (.pointer (some ⟨w.heap.size + 1, 0, none⟩))).run Try.prog W = .ok (.int .i64 d) W := by go_simp
  have g1 := blk_cell n0 (i := 1) (v := .int .i64 k) rfl
  have j1 := blk_cell n1 (i := 1) (v := .int .i64 k) rfl
  have l1 : (Instr.loadAt 3 (.pointer (some ⟨w.heap.size, 1, none⟩))).run Try.prog W = .ok (.int .i64 k) W := by go_simp
  have r1 : (Instr.loadAt 3 (.pointer (some ⟨w.heap.size + 1, 1, none⟩))).run Try.prog W = .ok (.int .i64 k) W := by go_simp
  have g2 := blk_cell n0 (i := 2) (v := .int .i64 f) rfl
  have j2 := blk_cell n1 (i := 2) (v := .int .i64 f') rfl
  have l2 : (Instr.loadAt 3 (.pointer (some ⟨w.heap.size, 2, none⟩))).run Try.prog W = .ok (.int .i64 f) W := by go_simp
  have r2 : (Instr.loadAt 3 (.pointer (some ⟨w.heap.size + 1, 2, none⟩))).run Try.prog W = .ok (.int .i64 f') W := by go_simp
  have HB := TW.hide hb
  have ef : (f == f') = false := by simp [q]
  clear hb n0 n1
  generalize Value.agg #[.int .i64 d, .int .i64 k, .int .i64 f, .int .i64 dp, .int .u32 lf, .int .u64 off, .int .u32 xof, .int .i64 nd, .int .i64 inn, .slice sa sl sc, .slice ta tl tc] = V0
  generalize Value.agg #[.int .i64 d, .int .i64 k, .int .i64 f', .int .i64 dp', .int .u32 lf', .int .u64 off', .int .u32 xof', .int .i64 nd', .int .i64 inn', .slice sa' sl' sc', .slice ta' tl' tc'] = V1
  simp only [List.append_eq, List.cons_append, List.nil_append]
  refine wp_seq ?_
  refine wp_region_lit ?_
  refine wpList_val (.pointer (some ⟨w.heap.size, 0, none⟩)) (by kernel_rfl) (by kernel_rfl) ?_
  simp only [Act.put, List.setIfInBounds_toArray, List.set_cons_zero, List.set_cons_succ]
  refine wpList_val (.int .i64 d) (by kernel_rfl) (val_load rfl (by kernel_rfl) l0) ?_
  simp only [Act.put, List.setIfInBounds_toArray, List.set_cons_zero, List.set_cons_succ]
  refine wpList_val (.pointer (some ⟨w.heap.size + 1, 0, none⟩)) (by kernel_rfl) (by kernel_rfl) ?_
  simp only [Act.put, List.setIfInBounds_toArray, List.set_cons_zero, List.set_cons_succ]
  refine wpList_val (.int .i64 d) (by kernel_rfl) (val_load rfl (by kernel_rfl) r0) ?_
  simp only [Act.put, List.setIfInBounds_toArray, List.set_cons_zero, List.set_cons_succ]
  refine wpList_val (.bool true) (by kernel_rfl) (val_eql (m := d) (n := d) (k := .i64) rfl (by kernel_rfl) (by kernel_rfl) (by kernel_rfl) (by simp)) ?_
  refine wpList_val (.bool true) rfl rfl ?_
  simp only [Act.put, List.setIfInBounds_toArray, List.set_cons_zero, List.set_cons_succ]
  refine wpList_val (.pointer (some ⟨w.heap.size, 1, none⟩)) (by kernel_rfl) (by kernel_rfl) ?_
  simp only [Act.put, List.setIfInBounds_toArray, List.set_cons_zero, List.set_cons_succ]
  refine wpList_val (.int .i64 k) (by kernel_rfl) (val_load rfl (by kernel_rfl) l1) ?_
  simp only [Act.put, List.setIfInBounds_toArray, List.set_cons_zero, List.set_cons_succ]
  refine wpList_val (.pointer (some ⟨w.heap.size + 1, 1, none⟩)) (by kernel_rfl) (by kernel_rfl) ?_
  simp only [Act.put, List.setIfInBounds_toArray, List.set_cons_zero, List.set_cons_succ]
  refine wpList_val (.int .i64 k) (by kernel_rfl) (val_load rfl (by kernel_rfl) r1) ?_
  simp only [Act.put, List.setIfInBounds_toArray, List.set_cons_zero, List.set_cons_succ]
  refine wpList_val (.bool true) (by kernel_rfl) (val_eql (m := k) (n := k) (k := .i64) rfl (by kernel_rfl) (by kernel_rfl) (by kernel_rfl) (by simp)) ?_
  refine wpList_val (.bool true) rfl rfl ?_
  refine wpList_val (.bool true) rfl rfl ?_
  simp only [Act.put, List.setIfInBounds_toArray, List.set_cons_zero, List.set_cons_succ]
  refine wpList_val (.pointer (some ⟨w.heap.size, 2, none⟩)) (by kernel_rfl) (by kernel_rfl) ?_
  simp only [Act.put, List.setIfInBounds_toArray, List.set_cons_zero, List.set_cons_succ]
  refine wpList_val (.int .i64 f) (by kernel_rfl) (val_load rfl (by kernel_rfl) l2) ?_
  simp only [Act.put, List.setIfInBounds_toArray, List.set_cons_zero, List.set_cons_succ]
  refine wpList_val (.pointer (some ⟨w.heap.size + 1, 2, none⟩)) (by kernel_rfl) (by kernel_rfl) ?_
  simp only [Act.put, List.setIfInBounds_toArray, List.set_cons_zero, List.set_cons_succ]
  refine wpList_val (.int .i64 f') (by kernel_rfl) (val_load rfl (by kernel_rfl) r2) ?_
  simp only [Act.put, List.setIfInBounds_toArray, List.set_cons_zero, List.set_cons_succ]
  refine wpList_val (.bool false) (by kernel_rfl) (val_eql (m := f) (n := f') (k := .i64) rfl (by kernel_rfl) (by kernel_rfl) (by kernel_rfl) ef) ?_
  refine wpList_val (.bool false) rfl rfl ?_
  refine wpList_val (.bool false) rfl rfl ?_
  simp only [Act.put, List.setIfInBounds_toArray, List.set_cons_zero, List.set_cons_succ]
  go_skip
  refine wpList_val (.bool false) rfl rfl ?_
  refine wpList_val (.bool false) rfl rfl ?_
  simp only [Act.put, List.setIfInBounds_toArray, List.set_cons_zero, List.set_cons_succ]
  go_skip
  refine wpList_val (.bool false) rfl rfl ?_
  refine wpList_val (.bool false) rfl rfl ?_
  simp only [Act.put, List.setIfInBounds_toArray, List.set_cons_zero, List.set_cons_succ]
  go_skip
  refine wpList_val (.bool false) rfl rfl ?_
  refine wpList_val (.bool false) rfl rfl ?_
  simp only [Act.put, List.setIfInBounds_toArray, List.set_cons_zero, List.set_cons_succ]
  go_skip
  refine wpList_val (.bool false) rfl rfl ?_
  refine wpList_val (.bool false) rfl rfl ?_
  simp only [Act.put, List.setIfInBounds_toArray, List.set_cons_zero, List.set_cons_succ]
  go_skip
  refine wpList_val (.bool false) rfl rfl ?_
  refine wpList_val (.bool false) rfl rfl ?_
  simp only [Act.put, List.setIfInBounds_toArray, List.set_cons_zero, List.set_cons_succ]
  go_skip
  refine wpList_val (.bool false) rfl rfl ?_
  refine wpList_val (.bool false) rfl rfl ?_
  simp only [Act.put, List.setIfInBounds_toArray, List.set_cons_zero, List.set_cons_succ]
  go_skip
  refine wpList_val (.bool false) rfl rfl ?_
  refine wpList_val (.bool false) rfl rfl ?_
  simp only [Act.put, List.setIfInBounds_toArray, List.set_cons_zero, List.set_cons_succ]
  go_skip
  refine wpList_val (.bool false) rfl rfl ?_
  refine wpList_val (.bool false) rfl rfl ?_
  simp only [Act.put, List.setIfInBounds_toArray, List.set_cons_zero, List.set_cons_succ]
  refine wpList_nil ?_
  simp only [Exit.then]
  refine wp_ret ?_
  refine bodyPost_ret (results_tmp Try.results41 _ _ _) rfl ?_
  exact ⟨rfl, HB.out⟩
set_option maxRecDepth 100000 in
set_option maxHeartbeats 8000000 in
theorem ralikeN3 (d k f dp lf off xof nd inn dp' lf' off' xof' nd' inn' : Int) (sa ta sa' ta' : Option Addr) (sl tl sl' tl' sc tc sc' tc' : Nat) (w : World) (q : ¬ dp = dp') :
    Calls Try.prog 41 #[.agg (pc d k f dp lf off xof nd inn (.slice sa sl sc) (.slice ta tl tc)), .agg (pc d k f dp' lf' off' xof' nd' inn' (.slice sa' sl' sc') (.slice ta' tl' tc'))] w fun e w' =>
      e = .returned (.bool false) ∧ Below w.heap.size w w' := by
  have hb := (((Below.refl w.heap.size w).alloc (Nat.le_refl _) (.cells #[.int .i64 d, .int .i64 k, .int .i64 f, .int .i64 dp, .int .u32 lf, .int .u64 off, .int .u32 xof, .int .i64 nd, .int .i64 inn, .slice sa sl sc, .slice ta tl tc] 26)).alloc (by simp) (.cells #[.int .i64 d, .int .i64 k, .int .i64 f, .int .i64 dp', .int .u32 lf', .int .u64 off', .int .u32 xof', .int .i64 nd', .int .i64 inn', .slice sa' sl' sc', .slice ta' tl' tc'] 26))
  have n0 := blk_alloc (o' := .cells #[.int .i64 d, .int .i64 k, .int .i64 f, .int .i64 dp', .int .u32 lf', .int .u64 off', .int .u32 xof', .int .i64 nd', .int .i64 inn', .slice sa' sl' sc', .slice ta' tl' tc'] 26) (heap_alloc_new w (.cells #[.int .i64 d, .int .i64 k, .int .i64 f, .int .i64 dp, .int .u32 lf, .int .u64 off, .int .u32 xof, .int .i64 nd, .int .i64 inn, .slice sa sl sc, .slice ta tl tc] 26))
  have n1 := heap_alloc_new (w.alloc (.cells #[.int .i64 d, .int .i64 k, .int .i64 f, .int .i64 dp, .int .u32 lf, .int .u64 off, .int .u32 xof, .int .i64 nd, .int .i64 inn, .slice sa sl sc, .slice ta tl tc] 26)) (.cells #[.int .i64 d, .int .i64 k, .int .i64 f, .int .i64 dp', .int .u32 lf', .int .u64 off', .int .u32 xof', .int .i64 nd', .int .i64 inn', .slice sa' sl' sc', .slice ta' tl' tc'] 26)
  rw [show (w.alloc (.cells #[.int .i64 d, .int .i64 k, .int .i64 f, .int .i64 dp, .int .u32 lf, .int .u64 off, .int .u32 xof, .int .i64 nd, .int .i64 inn, .slice sa sl sc, .slice ta tl tc] 26)).heap.size = w.heap.size + 1 by simp] at n1
  unfold pc
  go_enter Try.func41, Try.ntmps41
  refine wp_seq_k fun K hK => ?_
  have HK := TW.hide hK
  clear hK
  go_wp2
  refine HK.out _ _ ?_
  clear HK K
  generalize (w.alloc (.cells #[.int .i64 d, .int .i64 k, .int .i64 f, .int .i64 dp, .int .u32 lf, .int .u64 off, .int .u32 xof, .int .i64 nd, .int .i64 inn, .slice sa sl sc, .slice ta tl tc] 26)).alloc (.cells #[.int .i64 d, .int .i64 k, .int .i64 f, .int .i64 dp', .int .u32 lf', .int .u64 off', .int .u32 xof', .int .i64 nd', .int .i64 inn', .slice sa' sl' sc', .slice ta' tl' tc'] 26) = W at n0 n1 hb ⊢
  have g0 := blk_cell n0 (i := 0) (v := .int .i64 d) rfl
  have j0 := blk_cell n1 (i := 0) (v := .int .i64 d) rfl
  have l0 : (Instr.loadAt 3 (.pointer (some ⟨w.heap.size, 0, none⟩))).run Try.prog W = .ok (.int .i64 d) W := by go_simp
  have r0 : (Instr.loadAt 3 (.pointer (some ⟨w.heap.size + 1, 0, none⟩))).run Try.prog W = .ok (.int .i64 d) W := by go_simp
  have g1 := blk_cell n0 (i := 1) (v := .int .i64 k) rfl
  have j1 := blk_cell n1 (i := 1) (v := .int .i64 k) rfl
  have l1 : (Instr.loadAt 3 (.pointer (some ⟨w.heap.size, 1, none⟩))).run Try.prog W = .ok (.int .i64 k) W := by go_simp
  have r1 : (Instr.loadAt 3 (.pointer (some ⟨w.heap.size + 1, 1, none⟩))).run Try.prog W = .ok (.int .i64 k) W := by go_simp
  have g2 := blk_cell n0 (i := 2) (v := .int .i64 f) rfl
  have j2 := blk_cell n1 (i := 2) (v := .int .i64 f) rfl
  have l2 : (Instr.loadAt 3 (.pointer (some ⟨w.heap.size, 2, none⟩))).run Try.prog W = .ok (.int .i64 f) W := by go_simp
  have r2 : (Instr.loadAt 3 (.pointer (some ⟨w.heap.size + 1, 2, none⟩))).run Try.prog W = .ok (.int .i64 f) W := by go_simp
  have g3 := blk_cell n0 (i := 3) (v := .int .i64 dp) rfl
  have j3 := blk_cell n1 (i := 3) (v := .int .i64 dp') rfl
  have l3 : (Instr.loadAt 3 (.pointer (some ⟨w.heap.size, 3, none⟩))).run Try.prog W = .ok (.int .i64 dp) W := by go_simp
  have r3 : (Instr.loadAt 3 (.pointer (some ⟨w.heap.size + 1, 3, none⟩))).run Try.prog W = .ok (.int .i64 dp') W := by go_simp
  have HB := TW.hide hb
  have ef : (dp == dp') = false := by simp [q]
  clear hb n0 n1
  generalize Value.agg #[.int .i64 d, .int .i64 k, .int .i64 f, .int .i64 dp, .int .u32 lf, .int .u64 off, .int .u32 xof, .int .i64 nd, .int .i64 inn, .slice sa sl sc, .slice ta tl tc] = V0
  generalize Value.agg #[.int .i64 d, .int .i64 k, .int .i64 f, .int .i64 dp', .int .u32 lf', .int .u64 off', .int .u32 xof', .int .i64 nd', .int .i64 inn', .slice sa' sl' sc', .slice ta' tl' tc'] = V1
  simp only [List.append_eq, List.cons_append, List.nil_append]
  refine wp_seq ?_
  refine wp_region_lit ?_
  refine wpList_val (.pointer (some ⟨w.heap.size, 0, none⟩)) (by kernel_rfl) (by kernel_rfl) ?_
  simp only [Act.put, List.setIfInBounds_toArray, List.set_cons_zero, List.set_cons_succ]
  refine wpList_val (.int .i64 d) (by kernel_rfl) (val_load rfl (by kernel_rfl) l0) ?_
  simp only [Act.put, List.setIfInBounds_toArray, List.set_cons_zero, List.set_cons_succ]
  refine wpList_val (.pointer (some ⟨w.heap.size + 1, 0, none⟩)) (by kernel_rfl) (by kernel_rfl) ?_
  simp only [Act.put, List.setIfInBounds_toArray, List.set_cons_zero, List.set_cons_succ]
  refine wpList_val (.int .i64 d) (by kernel_rfl) (val_load rfl (by kernel_rfl) r0) ?_
  simp only [Act.put, List.setIfInBounds_toArray, List.set_cons_zero, List.set_cons_succ]
  refine wpList_val (.bool true) (by kernel_rfl) (val_eql (m := d) (n := d) (k := .i64) rfl (by kernel_rfl) (by kernel_rfl) (by kernel_rfl) (by simp)) ?_
  refine wpList_val (.bool true) rfl rfl ?_
  simp only [Act.put, List.setIfInBounds_toArray, List.set_cons_zero, List.set_cons_succ]
  refine wpList_val (.pointer (some ⟨w.heap.size, 1, none⟩)) (by kernel_rfl) (by kernel_rfl) ?_
  simp only [Act.put, List.setIfInBounds_toArray, List.set_cons_zero, List.set_cons_succ]
  refine wpList_val (.int .i64 k) (by kernel_rfl) (val_load rfl (by kernel_rfl) l1) ?_
  simp only [Act.put, List.setIfInBounds_toArray, List.set_cons_zero, List.set_cons_succ]
  refine wpList_val (.pointer (some ⟨w.heap.size + 1, 1, none⟩)) (by kernel_rfl) (by kernel_rfl) ?_
  simp only [Act.put, List.setIfInBounds_toArray, List.set_cons_zero, List.set_cons_succ]
  refine wpList_val (.int .i64 k) (by kernel_rfl) (val_load rfl (by kernel_rfl) r1) ?_
  simp only [Act.put, List.setIfInBounds_toArray, List.set_cons_zero, List.set_cons_succ]
  refine wpList_val (.bool true) (by kernel_rfl) (val_eql (m := k) (n := k) (k := .i64) rfl (by kernel_rfl) (by kernel_rfl) (by kernel_rfl) (by simp)) ?_
  refine wpList_val (.bool true) rfl rfl ?_
  refine wpList_val (.bool true) rfl rfl ?_
  simp only [Act.put, List.setIfInBounds_toArray, List.set_cons_zero, List.set_cons_succ]
  refine wpList_val (.pointer (some ⟨w.heap.size, 2, none⟩)) (by kernel_rfl) (by kernel_rfl) ?_
  simp only [Act.put, List.setIfInBounds_toArray, List.set_cons_zero, List.set_cons_succ]
  refine wpList_val (.int .i64 f) (by kernel_rfl) (val_load rfl (by kernel_rfl) l2) ?_
  simp only [Act.put, List.setIfInBounds_toArray, List.set_cons_zero, List.set_cons_succ]
  refine wpList_val (.pointer (some ⟨w.heap.size + 1, 2, none⟩)) (by kernel_rfl) (by kernel_rfl) ?_
  simp only [Act.put, List.setIfInBounds_toArray, List.set_cons_zero, List.set_cons_succ]
  refine wpList_val (.int .i64 f) (by kernel_rfl) (val_load rfl (by kernel_rfl) r2) ?_
  simp only [Act.put, List.setIfInBounds_toArray, List.set_cons_zero, List.set_cons_succ]
  refine wpList_val (.bool true) (by kernel_rfl) (val_eql (m := f) (n := f) (k := .i64) rfl (by kernel_rfl) (by kernel_rfl) (by kernel_rfl) (by simp)) ?_
  refine wpList_val (.bool true) rfl rfl ?_
  refine wpList_val (.bool true) rfl rfl ?_
  simp only [Act.put, List.setIfInBounds_toArray, List.set_cons_zero, List.set_cons_succ]
  refine wpList_val (.pointer (some ⟨w.heap.size, 3, none⟩)) (by kernel_rfl) (by kernel_rfl) ?_
  simp only [Act.put, List.setIfInBounds_toArray, List.set_cons_zero, List.set_cons_succ]
  refine wpList_val (.int .i64 dp) (by kernel_rfl) (val_load rfl (by kernel_rfl) l3) ?_
  simp only [Act.put, List.setIfInBounds_toArray, List.set_cons_zero, List.set_cons_succ]
  refine wpList_val (.pointer (some ⟨w.heap.size + 1, 3, none⟩)) (by kernel_rfl) (by kernel_rfl) ?_
  simp only [Act.put, List.setIfInBounds_toArray, List.set_cons_zero, List.set_cons_succ]
  refine wpList_val (.int .i64 dp') (by kernel_rfl) (val_load rfl (by kernel_rfl) r3) ?_
  simp only [Act.put, List.setIfInBounds_toArray, List.set_cons_zero, List.set_cons_succ]
  refine wpList_val (.bool false) (by kernel_rfl) (val_eql (m := dp) (n := dp') (k := .i64) rfl (by kernel_rfl) (by kernel_rfl) (by kernel_rfl) ef) ?_
  refine wpList_val (.bool false) rfl rfl ?_
  refine wpList_val (.bool false) rfl rfl ?_
  simp only [Act.put, List.setIfInBounds_toArray, List.set_cons_zero, List.set_cons_succ]
  go_skip
  refine wpList_val (.bool false) rfl rfl ?_
  refine wpList_val (.bool false) rfl rfl ?_
  simp only [Act.put, List.setIfInBounds_toArray, List.set_cons_zero, List.set_cons_succ]
  go_skip
  refine wpList_val (.bool false) rfl rfl ?_
  refine wpList_val (.bool false) rfl rfl ?_
  simp only [Act.put, List.setIfInBounds_toArray, List.set_cons_zero, List.set_cons_succ]
  go_skip
  refine wpList_val (.bool false) rfl rfl ?_
  refine wpList_val (.bool false) rfl rfl ?_
  simp only [Act.put, List.setIfInBounds_toArray, List.set_cons_zero, List.set_cons_succ]
  go_skip
  refine wpList_val (.bool false) rfl rfl ?_
  refine wpList_val (.bool false) rfl rfl ?_
  simp only [Act.put, List.setIfInBounds_toArray, List.set_cons_zero, List.set_cons_succ]
  go_skip
  refine wpList_val (.bool false) rfl rfl ?_
  refine wpList_val (.bool false) rfl rfl ?_
  simp only [Act.put, List.setIfInBounds_toArray, List.set_cons_zero, List.set_cons_succ]
  go_skip
  refine wpList_val (.bool false) rfl rfl ?_
  refine wpList_val (.bool false) rfl rfl ?_
  simp only [Act.put, List.setIfInBounds_toArray, List.set_cons_zero, List.set_cons_succ]
  go_skip
  refine wpList_val (.bool false) rfl rfl ?_
  refine wpList_val (.bool false) rfl rfl ?_
  simp only [Act.put, List.setIfInBounds_toArray, List.set_cons_zero, List.set_cons_succ]
  refine wpList_nil ?_
  simp only [Exit.then]
  refine wp_ret ?_
  refine bodyPost_ret (results_tmp Try.results41 _ _ _) rfl ?_
  exact ⟨rfl, HB.out⟩
set_option maxRecDepth 100000 in
set_option maxHeartbeats 8000000 in
theorem ralikeN4 (d k f dp lf off xof nd inn lf' off' xof' nd' inn' : Int) (sa ta sa' ta' : Option Addr) (sl tl sl' tl' sc tc sc' tc' : Nat) (w : World) (q : ¬ lf = lf') :
    Calls Try.prog 41 #[.agg (pc d k f dp lf off xof nd inn (.slice sa sl sc) (.slice ta tl tc)), .agg (pc d k f dp lf' off' xof' nd' inn' (.slice sa' sl' sc') (.slice ta' tl' tc'))] w fun e w' =>
      e = .returned (.bool false) ∧ Below w.heap.size w w' := by
  have hb := (((Below.refl w.heap.size w).alloc (Nat.le_refl _) (.cells #[.int .i64 d, .int .i64 k, .int .i64 f, .int .i64 dp, .int .u32 lf, .int .u64 off, .int .u32 xof, .int .i64 nd, .int .i64 inn, .slice sa sl sc, .slice ta tl tc] 26)).alloc (by simp) (.cells #[.int .i64 d, .int .i64 k, .int .i64 f, .int .i64 dp, .int .u32 lf', .int .u64 off', .int .u32 xof', .int .i64 nd', .int .i64 inn', .slice sa' sl' sc', .slice ta' tl' tc'] 26))
  have n0 := blk_alloc (o' := .cells #[.int .i64 d, .int .i64 k, .int .i64 f, .int .i64 dp, .int .u32 lf', .int .u64 off', .int .u32 xof', .int .i64 nd', .int .i64 inn', .slice sa' sl' sc', .slice ta' tl' tc'] 26) (heap_alloc_new w (.cells #[.int .i64 d, .int .i64 k, .int .i64 f, .int .i64 dp, .int .u32 lf, .int .u64 off, .int .u32 xof, .int .i64 nd, .int .i64 inn, .slice sa sl sc, .slice ta tl tc] 26))
  have n1 := heap_alloc_new (w.alloc (.cells #[.int .i64 d, .int .i64 k, .int .i64 f, .int .i64 dp, .int .u32 lf, .int .u64 off, .int .u32 xof, .int .i64 nd, .int .i64 inn, .slice sa sl sc, .slice ta tl tc] 26)) (.cells #[.int .i64 d, .int .i64 k, .int .i64 f, .int .i64 dp, .int .u32 lf', .int .u64 off', .int .u32 xof', .int .i64 nd', .int .i64 inn', .slice sa' sl' sc', .slice ta' tl' tc'] 26)
  rw [show (w.alloc (.cells #[.int .i64 d, .int .i64 k, .int .i64 f, .int .i64 dp, .int .u32 lf, .int .u64 off, .int .u32 xof, .int .i64 nd, .int .i64 inn, .slice sa sl sc, .slice ta tl tc] 26)).heap.size = w.heap.size + 1 by simp] at n1
  unfold pc
  go_enter Try.func41, Try.ntmps41
  refine wp_seq_k fun K hK => ?_
  have HK := TW.hide hK
  clear hK
  go_wp2
  refine HK.out _ _ ?_
  clear HK K
  generalize (w.alloc (.cells #[.int .i64 d, .int .i64 k, .int .i64 f, .int .i64 dp, .int .u32 lf, .int .u64 off, .int .u32 xof, .int .i64 nd, .int .i64 inn, .slice sa sl sc, .slice ta tl tc] 26)).alloc (.cells #[.int .i64 d, .int .i64 k, .int .i64 f, .int .i64 dp, .int .u32 lf', .int .u64 off', .int .u32 xof', .int .i64 nd', .int .i64 inn', .slice sa' sl' sc', .slice ta' tl' tc'] 26) = W at n0 n1 hb ⊢
  have g0 := blk_cell n0 (i := 0) (v := .int .i64 d) rfl
  have j0 := blk_cell n1 (i := 0) (v := .int .i64 d) rfl
  have l0 : (Instr.loadAt 3 (.pointer (some ⟨w.heap.size, 0, none⟩))).run Try.prog W = .ok (.int .i64 d) W := by go_simp
  have r0 : (Instr.loadAt 3 (.pointer (some ⟨w.heap.size + 1, 0, none⟩))).run Try.prog W = .ok (.int .i64 d) W := by go_simp
  have g1 := blk_cell n0 (i := 1) (v := .int .i64 k) rfl
  have j1 := blk_cell n1 (i := 1) (v := .int .i64 k) rfl
  have l1 : (Instr.loadAt 3 (.pointer (some ⟨w.heap.size, 1, none⟩))).run Try.prog W = .ok (.int .i64 k) W := by go_simp
  have r1 : (Instr.loadAt 3 (.pointer (some ⟨w.heap.size + 1, 1, none⟩))).run Try.prog W = .ok (.int .i64 k) W := by go_simp
  have g2 := blk_cell n0 (i := 2) (v := .int .i64 f) rfl
  have j2 := blk_cell n1 (i := 2) (v := .int .i64 f) rfl
  have l2 : (Instr.loadAt 3 (.pointer (some ⟨w.heap.size, 2, none⟩))).run Try.prog W = .ok (.int .i64 f) W := by go_simp
  have r2 : (Instr.loadAt 3 (.pointer (some ⟨w.heap.size + 1, 2, none⟩))).run Try.prog W = .ok (.int .i64 f) W := by go_simp
  have g3 := blk_cell n0 (i := 3) (v := .int .i64 dp) rfl
  have j3 := blk_cell n1 (i := 3) (v := .int .i64 dp) rfl
  have l3 : (Instr.loadAt 3 (.pointer (some ⟨w.heap.size, 3, none⟩))).run Try.prog W = .ok (.int .i64 dp) W := by go_simp
  have r3 : (Instr.loadAt 3 (.pointer (some ⟨w.heap.size + 1, 3, none⟩))).run Try.prog W = .ok (.int .i64 dp) W := by go_simp
  have g4 := blk_cell n0 (i := 4) (v := .int .u32 lf) rfl
  have j4 := blk_cell n1 (i := 4) (v := .int .u32 lf') rfl
  have l4 : (Instr.loadAt 22 (.pointer (some ⟨w.heap.size, 4, none⟩))).run Try.prog W = .ok (.int .u32 lf) W := by go_simp
  have r4 : (Instr.loadAt 22 (.pointer (some ⟨w.heap.size + 1, 4, none⟩))).run Try.prog W = .ok (.int .u32 lf') W := by go_simp
  have HB := TW.hide hb
  have ef : (lf == lf') = false := by simp [q]
  clear hb n0 n1
  generalize Value.agg #[.int .i64 d, .int .i64 k, .int .i64 f, .int .i64 dp, .int .u32 lf, .int .u64 off, .int .u32 xof, .int .i64 nd, .int .i64 inn, .slice sa sl sc, .slice ta tl tc] = V0
  generalize Value.agg #[.int .i64 d, .int .i64 k, .int .i64 f, .int .i64 dp, .int .u32 lf', .int .u64 off', .int .u32 xof', .int .i64 nd', .int .i64 inn', .slice sa' sl' sc', .slice ta' tl' tc'] = V1
  simp only [List.append_eq, List.cons_append, List.nil_append]
  refine wp_seq ?_
  refine wp_region_lit ?_
  refine wpList_val (.pointer (some ⟨w.heap.size, 0, none⟩)) (by kernel_rfl) (by kernel_rfl) ?_
  simp only [Act.put, List.setIfInBounds_toArray, List.set_cons_zero, List.set_cons_succ]
  refine wpList_val (.int .i64 d) (by kernel_rfl) (val_load rfl (by kernel_rfl) l0) ?_
  simp only [Act.put, List.setIfInBounds_toArray, List.set_cons_zero, List.set_cons_succ]
  refine wpList_val (.pointer (some ⟨w.heap.size + 1, 0, none⟩)) (by kernel_rfl) (by kernel_rfl) ?_
  simp only [Act.put, List.setIfInBounds_toArray, List.set_cons_zero, List.set_cons_succ]
  refine wpList_val (.int .i64 d) (by kernel_rfl) (val_load rfl (by kernel_rfl) r0) ?_
  simp only [Act.put, List.setIfInBounds_toArray, List.set_cons_zero, List.set_cons_succ]
  refine wpList_val (.bool true) (by kernel_rfl) (val_eql (m := d) (n := d) (k := .i64) rfl (by kernel_rfl) (by kernel_rfl) (by kernel_rfl) (by simp)) ?_
  refine wpList_val (.bool true) rfl rfl ?_
  simp only [Act.put, List.setIfInBounds_toArray, List.set_cons_zero, List.set_cons_succ]
  refine wpList_val (.pointer (some ⟨w.heap.size, 1, none⟩)) (by kernel_rfl) (by kernel_rfl) ?_
  simp only [Act.put, List.setIfInBounds_toArray, List.set_cons_zero, List.set_cons_succ]
  refine wpList_val (.int .i64 k) (by kernel_rfl) (val_load rfl (by kernel_rfl) l1) ?_
  simp only [Act.put, List.setIfInBounds_toArray, List.set_cons_zero, List.set_cons_succ]
  refine wpList_val (.pointer (some ⟨w.heap.size + 1, 1, none⟩)) (by kernel_rfl) (by kernel_rfl) ?_
  simp only [Act.put, List.setIfInBounds_toArray, List.set_cons_zero, List.set_cons_succ]
  refine wpList_val (.int .i64 k) (by kernel_rfl) (val_load rfl (by kernel_rfl) r1) ?_
  simp only [Act.put, List.setIfInBounds_toArray, List.set_cons_zero, List.set_cons_succ]
  refine wpList_val (.bool true) (by kernel_rfl) (val_eql (m := k) (n := k) (k := .i64) rfl (by kernel_rfl) (by kernel_rfl) (by kernel_rfl) (by simp)) ?_
  refine wpList_val (.bool true) rfl rfl ?_
  refine wpList_val (.bool true) rfl rfl ?_
  simp only [Act.put, List.setIfInBounds_toArray, List.set_cons_zero, List.set_cons_succ]
  refine wpList_val (.pointer (some ⟨w.heap.size, 2, none⟩)) (by kernel_rfl) (by kernel_rfl) ?_
  simp only [Act.put, List.setIfInBounds_toArray, List.set_cons_zero, List.set_cons_succ]
  refine wpList_val (.int .i64 f) (by kernel_rfl) (val_load rfl (by kernel_rfl) l2) ?_
  simp only [Act.put, List.setIfInBounds_toArray, List.set_cons_zero, List.set_cons_succ]
  refine wpList_val (.pointer (some ⟨w.heap.size + 1, 2, none⟩)) (by kernel_rfl) (by kernel_rfl) ?_
  simp only [Act.put, List.setIfInBounds_toArray, List.set_cons_zero, List.set_cons_succ]
  refine wpList_val (.int .i64 f) (by kernel_rfl) (val_load rfl (by kernel_rfl) r2) ?_
  simp only [Act.put, List.setIfInBounds_toArray, List.set_cons_zero, List.set_cons_succ]
  refine wpList_val (.bool true) (by kernel_rfl) (val_eql (m := f) (n := f) (k := .i64) rfl (by kernel_rfl) (by kernel_rfl) (by kernel_rfl) (by simp)) ?_
  refine wpList_val (.bool true) rfl rfl ?_
  refine wpList_val (.bool true) rfl rfl ?_
  simp only [Act.put, List.setIfInBounds_toArray, List.set_cons_zero, List.set_cons_succ]
  refine wpList_val (.pointer (some ⟨w.heap.size, 3, none⟩)) (by kernel_rfl) (by kernel_rfl) ?_
  simp only [Act.put, List.setIfInBounds_toArray, List.set_cons_zero, List.set_cons_succ]
  refine wpList_val (.int .i64 dp) (by kernel_rfl) (val_load rfl (by kernel_rfl) l3) ?_
  simp only [Act.put, List.setIfInBounds_toArray, List.set_cons_zero, List.set_cons_succ]
  refine wpList_val (.pointer (some ⟨w.heap.size + 1, 3, none⟩)) (by kernel_rfl) (by kernel_rfl) ?_
  simp only [Act.put, List.setIfInBounds_toArray, List.set_cons_zero, List.set_cons_succ]
  refine wpList_val (.int .i64 dp) (by kernel_rfl) (val_load rfl (by kernel_rfl) r3) ?_
  simp only [Act.put, List.setIfInBounds_toArray, List.set_cons_zero, List.set_cons_succ]
  refine wpList_val (.bool true) (by kernel_rfl) (val_eql (m := dp) (n := dp) (k := .i64) rfl (by kernel_rfl) (by kernel_rfl) (by kernel_rfl) (by simp)) ?_
  refine wpList_val (.bool true) rfl rfl ?_
  refine wpList_val (.bool true) rfl rfl ?_
  simp only [Act.put, List.setIfInBounds_toArray, List.set_cons_zero, List.set_cons_succ]
  refine wpList_val (.pointer (some ⟨w.heap.size, 4, none⟩)) (by kernel_rfl) (by kernel_rfl) ?_
  simp only [Act.put, List.setIfInBounds_toArray, List.set_cons_zero, List.set_cons_succ]
  refine wpList_val (.int .u32 lf) (by kernel_rfl) (val_load rfl (by kernel_rfl) l4) ?_
  simp only [Act.put, List.setIfInBounds_toArray, List.set_cons_zero, List.set_cons_succ]
  refine wpList_val (.pointer (some ⟨w.heap.size + 1, 4, none⟩)) (by kernel_rfl) (by kernel_rfl) ?_
  simp only [Act.put, List.setIfInBounds_toArray, List.set_cons_zero, List.set_cons_succ]
  refine wpList_val (.int .u32 lf') (by kernel_rfl) (val_load rfl (by kernel_rfl) r4) ?_
  simp only [Act.put, List.setIfInBounds_toArray, List.set_cons_zero, List.set_cons_succ]
  refine wpList_val (.bool false) (by kernel_rfl) (val_eql (m := lf) (n := lf') (k := .u32) rfl (by kernel_rfl) (by kernel_rfl) (by kernel_rfl) ef) ?_
  refine wpList_val (.bool false) rfl rfl ?_
  refine wpList_val (.bool false) rfl rfl ?_
  simp only [Act.put, List.setIfInBounds_toArray, List.set_cons_zero, List.set_cons_succ]
  go_skip
  refine wpList_val (.bool false) rfl rfl ?_
  refine wpList_val (.bool false) rfl rfl ?_
  simp only [Act.put, List.setIfInBounds_toArray, List.set_cons_zero, List.set_cons_succ]
  go_skip
  refine wpList_val (.bool false) rfl rfl ?_
  refine wpList_val (.bool false) rfl rfl ?_
  simp only [Act.put, List.setIfInBounds_toArray, List.set_cons_zero, List.set_cons_succ]
  go_skip
  refine wpList_val (.bool false) rfl rfl ?_
  refine wpList_val (.bool false) rfl rfl ?_
  simp only [Act.put, List.setIfInBounds_toArray, List.set_cons_zero, List.set_cons_succ]
  go_skip
  refine wpList_val (.bool false) rfl rfl ?_
  refine wpList_val (.bool false) rfl rfl ?_
  simp only [Act.put, List.setIfInBounds_toArray, List.set_cons_zero, List.set_cons_succ]
  go_skip
  refine wpList_val (.bool false) rfl rfl ?_
  refine wpList_val (.bool false) rfl rfl ?_
  simp only [Act.put, List.setIfInBounds_toArray, List.set_cons_zero, List.set_cons_succ]
  go_skip
  refine wpList_val (.bool false) rfl rfl ?_
  refine wpList_val (.bool false) rfl rfl ?_
  simp only [Act.put, List.setIfInBounds_toArray, List.set_cons_zero, List.set_cons_succ]
  refine wpList_nil ?_
  simp only [Exit.then]
  refine wp_ret ?_
  refine bodyPost_ret (results_tmp Try.results41 _ _ _) rfl ?_
  exact ⟨rfl, HB.out⟩
set_option maxRecDepth 100000 in
set_option maxHeartbeats 8000000 in
theorem ralikeN5 (d k f dp lf off xof nd inn off' xof' nd' inn' : Int) (sa ta sa' ta' : Option Addr) (sl tl sl' tl' sc tc sc' tc' : Nat) (w : World) (q : ¬ off = off') :
    Calls Try.prog 41 #[.agg (pc d k f dp lf off xof nd inn (.slice sa sl sc) (.slice ta tl tc)), .agg (pc d k f dp lf off' xof' nd' inn' (.slice sa' sl' sc') (.slice ta' tl' tc'))] w fun e w' =>
      e = .returned (.bool false) ∧ Below w.heap.size w w' := by
  have hb := (((Below.refl w.heap.size w).alloc (Nat.le_refl _) (.cells #[.int .i64 d, .int .i64 k, .int .i64 f, .int .i64 dp, .int .u32 lf, .int .u64 off, .int .u32 xof, .int .i64 nd, .int .i64 inn, .slice sa sl sc, .slice ta tl tc] 26)).alloc (by simp) (.cells #[.int .i64 d, .int .i64 k, .int .i64 f, .int .i64 dp, .int .u32 lf, .int .u64 off', .int .u32 xof', .int .i64 nd', .int .i64 inn', .slice sa' sl' sc', .slice ta' tl' tc'] 26))
  have n0 := blk_alloc (o' := .cells #[.int .i64 d, .int .i64 k, .int .i64 f, .int .i64 dp, .int .u32 lf, .int .u64 off', .int .u32 xof', .int .i64 nd', .int .i64 inn', .slice sa' sl' sc', .slice ta' tl' tc'] 26) (heap_alloc_new w (.cells #[.int .i64 d, .int .i64 k, .int .i64 f, .int .i64 dp, .int .u32 lf, .int .u64 off, .int .u32 xof, .int .i64 nd, .int .i64 inn, .slice sa sl sc, .slice ta tl tc] 26))
  have n1 := heap_alloc_new (w.alloc (.cells #[.int .i64 d, .int .i64 k, .int .i64 f, .int .i64 dp, .int .u32 lf, .int .u64 off, .int .u32 xof, .int .i64 nd, .int .i64 inn, .slice sa sl sc, .slice ta tl tc] 26)) (.cells #[.int .i64 d, .int .i64 k, .int .i64 f, .int .i64 dp, .int .u32 lf, .int .u64 off', .int .u32 xof', .int .i64 nd', .int .i64 inn', .slice sa' sl' sc', .slice ta' tl' tc'] 26)
  rw [show (w.alloc (.cells #[.int .i64 d, .int .i64 k, .int .i64 f, .int .i64 dp, .int .u32 lf, .int .u64 off, .int .u32 xof, .int .i64 nd, .int .i64 inn, .slice sa sl sc, .slice ta tl tc] 26)).heap.size = w.heap.size + 1 by simp] at n1
  unfold pc
  go_enter Try.func41, Try.ntmps41
  refine wp_seq_k fun K hK => ?_
  have HK := TW.hide hK
  clear hK
  go_wp2
  refine HK.out _ _ ?_
  clear HK K
  generalize (w.alloc (.cells #[.int .i64 d, .int .i64 k, .int .i64 f, .int .i64 dp, .int .u32 lf, .int .u64 off, .int .u32 xof, .int .i64 nd, .int .i64 inn, .slice sa sl sc, .slice ta tl tc] 26)).alloc (.cells #[.int .i64 d, .int .i64 k, .int .i64 f, .int .i64 dp, .int .u32 lf, .int .u64 off', .int .u32 xof', .int .i64 nd', .int .i64 inn', .slice sa' sl' sc', .slice ta' tl' tc'] 26) = W at n0 n1 hb ⊢
  have g0 := blk_cell n0 (i := 0) (v := .int .i64 d) rfl
  have j0 := blk_cell n1 (i := 0) (v := .int .i64 d) rfl
  have l0 : (Instr.loadAt 3 (.pointer (some ⟨w.heap.size, 0, none⟩))).run Try.prog W = .ok (.int .i64 d) W := by go_simp
  have r0 : (Instr.loadAt 3 (.pointer (some ⟨w.heap.size + 1, 0, none⟩))).run Try.prog W = .ok (.int .i64 d) W := by go_simp
  have g1 := blk_cell n0 (i := 1) (v := .int .i64 k) rfl
  have j1 := blk_cell n1 (i := 1) (v := .int .i64 k) rfl
  have l1 : (Instr.loadAt 3 (.pointer (some ⟨w.heap.size, 1, none⟩))).run Try.prog W = .ok (.int .i64 k) W := by go_simp
  have r1 : (Instr.loadAt 3 (.pointer (some ⟨w.heap.size + 1, 1, none⟩))).run Try.prog W = .ok (.int .i64 k) W := by go_simp
  have g2 := blk_cell n0 (i := 2) (v := .int .i64 f) rfl
  have j2 := blk_cell n1 (i := 2) (v := .int .i64 f) rfl
  have l2 : (Instr.loadAt 3 (.pointer (some ⟨w.heap.size, 2, none⟩))).run Try.prog W = .ok (.int .i64 f) W := by go_simp
  have r2 : (Instr.loadAt 3 (.pointer (some ⟨w.heap.size + 1, 2, none⟩))).run Try.prog W = .ok (.int .i64 f) W := by go_simp
  have g3 := blk_cell n0 (i := 3) (v := .int .i64 dp) rfl
  have j3 := blk_cell n1 (i := 3) (v := .int .i64 dp) rfl
  have l3 : (Instr.loadAt 3 (.pointer (some ⟨w.heap.size, 3, none⟩))).run Try.prog W = .ok (.int .i64 dp) W := by go_simp
  have r3 : (Instr.loadAt 3 (.pointer (some ⟨w.heap.size + 1, 3, none⟩))).run Try.prog W = .ok (.int .i64 dp) W := by go_simp
  have g4 := blk_cell n0 (i := 4) (v := .int .u32 lf) rfl
  have j4 := blk_cell n1 (i := 4) (v := .int .u32 lf) rfl
  have l4 : (Instr.loadAt 22 (.pointer (some ⟨w.heap.size, 4, none⟩))).run Try.prog W = .ok (.int .u32 lf) W := by go_simp
  have r4 : (Instr.loadAt 22 (.pointer (some ⟨w.heap.size + 1, 4, none⟩))).run Try.prog W = .ok (.int .u32 lf) W := by go_simp
  have g5 := blk_cell n0 (i := 5) (v := .int .u64 off) rfl
  have j5 := blk_cell n1 (i := 5) (v := .int .u64 off') rfl
  have l5 : (Instr.loadAt 23 (.pointer (some ⟨w.heap.size, 5, none⟩))).run Try.prog W = .ok (.int .u64 off) W := by go_simp
  have r5 : (Instr.loadAt 23 (.pointer (some ⟨w.heap.size + 1, 5, none⟩))).run Try.prog W = .ok (.int .u64 off') W := by go_simp
  have HB := TW.hide hb
  have ef : (off == off') = false := by simp [q]
  clear hb n0 n1
  generalize Value.agg #[.int .i64 d, .int .i64 k, .int .i64 f, .int .i64 dp, .int .u32 lf, .int .u64 off, .int .u32 xof, .int .i64 nd, .int .i64 inn, .slice sa sl sc, .slice ta tl tc] = V0
  generalize Value.agg #[.int .i64 d, .int .i64 k, .int .i64 f, .int .i64 dp, .int .u32 lf, .int .u64 off', .int .u32 xof', .int .i64 nd', .int .i64 inn', .slice sa' sl' sc', .slice ta' tl' tc'] = V1
  simp only [List.append_eq, List.cons_append, List.nil_append]
  refine wp_seq ?_
  refine wp_region_lit ?_
  refine wpList_val (.pointer (some ⟨w.heap.size, 0, none⟩)) (by kernel_rfl) (by kernel_rfl) ?_
  simp only [Act.put, List.setIfInBounds_toArray, List.set_cons_zero, List.set_cons_succ]
  refine wpList_val (.int .i64 d) (by kernel_rfl) (val_load rfl (by kernel_rfl) l0) ?_
  simp only [Act.put, List.setIfInBounds_toArray, List.set_cons_zero, List.set_cons_succ]
  refine wpList_val (.pointer (some ⟨w.heap.size + 1, 0, none⟩)) (by kernel_rfl) (by kernel_rfl) ?_
  simp only [Act.put, List.setIfInBounds_toArray, List.set_cons_zero, List.set_cons_succ]
  refine wpList_val (.int .i64 d) (by kernel_rfl) (val_load rfl (by kernel_rfl) r0) ?_
  simp only [Act.put, List.setIfInBounds_toArray, List.set_cons_zero, List.set_cons_succ]
  refine wpList_val (.bool true) (by kernel_rfl) (val_eql (m := d) (n := d) (k := .i64) rfl (by kernel_rfl) (by kernel_rfl) (by kernel_rfl) (by simp)) ?_
  refine wpList_val (.bool true) rfl rfl ?_
  simp only [Act.put, List.setIfInBounds_toArray, List.set_cons_zero, List.set_cons_succ]
  refine wpList_val (.pointer (some ⟨w.heap.size, 1, none⟩)) (by kernel_rfl) (by kernel_rfl) ?_
  simp only [Act.put, List.setIfInBounds_toArray, List.set_cons_zero, List.set_cons_succ]
  refine wpList_val (.int .i64 k) (by kernel_rfl) (val_load rfl (by kernel_rfl) l1) ?_
  simp only [Act.put, List.setIfInBounds_toArray, List.set_cons_zero, List.set_cons_succ]
  refine wpList_val (.pointer (some ⟨w.heap.size + 1, 1, none⟩)) (by kernel_rfl) (by kernel_rfl) ?_
  simp only [Act.put, List.setIfInBounds_toArray, List.set_cons_zero, List.set_cons_succ]
  refine wpList_val (.int .i64 k) (by kernel_rfl) (val_load rfl (by kernel_rfl) r1) ?_
  simp only [Act.put, List.setIfInBounds_toArray, List.set_cons_zero, List.set_cons_succ]
  refine wpList_val (.bool true) (by kernel_rfl) (val_eql (m := k) (n := k) (k := .i64) rfl (by kernel_rfl) (by kernel_rfl) (by kernel_rfl) (by simp)) ?_
  refine wpList_val (.bool true) rfl rfl ?_
  refine wpList_val (.bool true) rfl rfl ?_
  simp only [Act.put, List.setIfInBounds_toArray, List.set_cons_zero, List.set_cons_succ]
  refine wpList_val (.pointer (some ⟨w.heap.size, 2, none⟩)) (by kernel_rfl) (by kernel_rfl) ?_
  simp only [Act.put, List.setIfInBounds_toArray, List.set_cons_zero, List.set_cons_succ]
  refine wpList_val (.int .i64 f) (by kernel_rfl) (val_load rfl (by kernel_rfl) l2) ?_
  simp only [Act.put, List.setIfInBounds_toArray, List.set_cons_zero, List.set_cons_succ]
  refine wpList_val (.pointer (some ⟨w.heap.size + 1, 2, none⟩)) (by kernel_rfl) (by kernel_rfl) ?_
  simp only [Act.put, List.setIfInBounds_toArray, List.set_cons_zero, List.set_cons_succ]
  refine wpList_val (.int .i64 f) (by kernel_rfl) (val_load rfl (by kernel_rfl) r2) ?_
  simp only [Act.put, List.setIfInBounds_toArray, List.set_cons_zero, List.set_cons_succ]
  refine wpList_val (.bool true) (by kernel_rfl) (val_eql (m := f) (n := f) (k := .i64) rfl (by kernel_rfl) (by kernel_rfl) (by kernel_rfl) (by simp)) ?_
  refine wpList_val (.bool true) rfl rfl ?_
  refine wpList_val (.bool true) rfl rfl ?_
  simp only [Act.put, List.setIfInBounds_toArray, List.set_cons_zero, List.set_cons_succ]
  refine wpList_val (.pointer (some ⟨w.heap.size, 3, none⟩)) (by kernel_rfl) (by kernel_rfl) ?_
  simp only [Act.put, List.setIfInBounds_toArray, List.set_cons_zero, List.set_cons_succ]
  refine wpList_val (.int .i64 dp) (by kernel_rfl) (val_load rfl (by kernel_rfl) l3) ?_
  simp only [Act.put, List.setIfInBounds_toArray, List.set_cons_zero, List.set_cons_succ]
  refine wpList_val (.pointer (some ⟨w.heap.size + 1, 3, none⟩)) (by kernel_rfl) (by kernel_rfl) ?_
  simp only [Act.put, List.setIfInBounds_toArray, List.set_cons_zero, List.set_cons_succ]
  refine wpList_val (.int .i64 dp) (by kernel_rfl) (val_load rfl (by kernel_rfl) r3) ?_
  simp only [Act.put, List.setIfInBounds_toArray, List.set_cons_zero, List.set_cons_succ]
  refine wpList_val (.bool true) (by kernel_rfl) (val_eql (m := dp) (n := dp) (k := .i64) rfl (by kernel_rfl) (by kernel_rfl) (by kernel_rfl) (by simp)) ?_
  refine wpList_val (.bool true) rfl rfl ?_
  refine wpList_val (.bool true) rfl rfl ?_
  simp only [Act.put, List.setIfInBounds_toArray, List.set_cons_zero, List.set_cons_succ]
  refine wpList_val (.pointer (some ⟨w.heap.size, 4, none⟩)) (by kernel_rfl) (by kernel_rfl) ?_
  simp only [Act.put, List.setIfInBounds_toArray, List.set_cons_zero, List.set_cons_succ]
  refine wpList_val (.int .u32 lf) (by kernel_rfl) (val_load rfl (by kernel_rfl) l4) ?_
  simp only [Act.put, List.setIfInBounds_toArray, List.set_cons_zero, List.set_cons_succ]
  refine wpList_val (.pointer (some ⟨w.heap.size + 1, 4, none⟩)) (by kernel_rfl) (by kernel_rfl) ?_
  simp only [Act.put, List.setIfInBounds_toArray, List.set_cons_zero, List.set_cons_succ]
  refine wpList_val (.int .u32 lf) (by kernel_rfl) (val_load rfl (by kernel_rfl) r4) ?_
  simp only [Act.put, List.setIfInBounds_toArray, List.set_cons_zero, List.set_cons_succ]
  refine wpList_val (.bool true) (by kernel_rfl) (val_eql (m := lf) (n := lf) (k := .u32) rfl (by kernel_rfl) (by kernel_rfl) (by kernel_rfl) (by simp)) ?_
  refine wpList_val (.bool true) rfl rfl ?_
  refine wpList_val (.bool true) rfl rfl ?_
  simp only [Act.put, List.setIfInBounds_toArray, List.set_cons_zero, List.set_cons_succ]
  refine wpList_val (.pointer (some ⟨w.heap.size, 5, none⟩)) (by kernel_rfl) (by kernel_rfl) ?_
  simp only [Act.put, List.setIfInBounds_toArray, List.set_cons_zero, List.set_cons_succ]
  refine wpList_val (.int .u64 off) (by kernel_rfl) (val_load rfl (by kernel_rfl) l5) ?_
  simp only [Act.put, List.setIfInBounds_toArray, List.set_cons_zero, List.set_cons_succ]
  refine wpList_val (.pointer (some ⟨w.heap.size + 1, 5, none⟩)) (by kernel_rfl) (by kernel_rfl) ?_
  simp only [Act.put, List.setIfInBounds_toArray, List.set_cons_zero, List.set_cons_succ]
  refine wpList_val (.int .u64 off') (by kernel_rfl) (val_load rfl (by kernel_rfl) r5) ?_
  simp only [Act.put, List.setIfInBounds_toArray, List.set_cons_zero, List.set_cons_succ]
  refine wpList_val (.bool false) (by kernel_rfl) (val_eql (m := off) (n := off') (k := .u64) rfl (by kernel_rfl) (by kernel_rfl) (by kernel_rfl) ef) ?_
  refine wpList_val (.bool false) rfl rfl ?_
  refine wpList_val (.bool false) rfl rfl ?_
  simp only [Act.put, List.setIfInBounds_toArray, List.set_cons_zero, List.set_cons_succ]
  go_skip
  refine wpList_val (.bool false) rfl rfl ?_
  refine wpList_val (.bool false) rfl rfl ?_
  simp only [Act.put, List.setIfInBounds_toArray, List.set_cons_zero, List.set_cons_succ]
  go_skip
  refine wpList_val (.bool false) rfl rfl ?_
  refine wpList_val (.bool false) rfl rfl ?_
  simp only [Act.put, List.setIfInBounds_toArray, List.set_cons_zero, List.set_cons_succ]
  go_skip
  refine wpList_val (.bool false) rfl rfl ?_
  refine wpList_val (.bool false) rfl rfl ?_
  simp only [Act.put, List.setIfInBounds_toArray, List.set_cons_zero, List.set_cons_succ]
  go_skip
  refine wpList_val (.bool false) rfl rfl ?_
  refine wpList_val (.bool false) rfl rfl ?_
  simp only [Act.put, List.setIfInBounds_toArray, List.set_cons_zero, List.set_cons_succ]
  go_skip
  refine wpList_val (.bool false) rfl rfl ?_
  refine wpList_val (.bool false) rfl rfl ?_
  simp only [Act.put, List.setIfInBounds_toArray, List.set_cons_zero, List.set_cons_succ]
  refine wpList_nil ?_
  simp only [Exit.then]
  refine wp_ret ?_
  refine bodyPost_ret (results_tmp Try.results41 _ _ _) rfl ?_
  exact ⟨rfl, HB.out⟩
set_option maxRecDepth 100000 in
set_option maxHeartbeats 8000000 in
theorem ralikeN6 (d k f dp lf off xof nd inn xof' nd' inn' : Int) (sa ta sa' ta' : Option Addr) (sl tl sl' tl' sc tc sc' tc' : Nat) (w : World) (q : ¬ xof = xof') :
    Calls Try.prog 41 #[.agg (pc d k f dp lf off xof nd inn (.slice sa sl sc) (.slice ta tl tc)), .agg (pc d k f dp lf off xof' nd' inn' (.slice sa' sl' sc') (.slice ta' tl' tc'))] w fun e w' =>
      e = .returned (.bool false) ∧ Below w.heap.size w w' := by
  have hb := (((Below.refl w.heap.size w).alloc (Nat.le_refl _) (.cells #[.int .i64 d, .int .i64 k, .int .i64 f, .int .i64 dp, .int .u32 lf, .int .u64 off, .int .u32 xof, .int .i64 nd, .int .i64 inn, .slice sa sl sc, .slice ta tl tc] 26)).alloc (by simp) (.cells #[.int .i64 d, .int .i64 k, .int .i64 f, .int .i64 dp, .int .u32 lf, .int .u64 off, .int .u32 xof', .int .i64 nd', .int .i64 inn', .slice sa' sl' sc', .slice ta' tl' tc'] 26))
  have n0 := blk_alloc (o' := .cells #[.int .i64 d, .int .i64 k, .int .i64 f, .int .i64 dp, .int .u32 lf, .int .u64 off, .int .u32 xof', .int .i64 nd', .int .i64 inn', .slice sa' sl' sc', .slice ta' tl' tc'] 26) (heap_alloc_new w (.cells #[.int .i64 d, .int .i64 k, .int .i64 f, .int .i64 dp, .int .u32 lf, .int .u64 off, .int .u32 xof, .int .i64 nd, .int .i64 inn, .slice sa sl sc, .slice ta tl tc] 26))
  have n1 := heap_alloc_new (w.alloc (.cells #[.int .i64 d, .int .i64 k, .int .i64 f, .int .i64 dp, .int .u32 lf, .int .u64 off, .int .u32 xof, .int .i64 nd, .int .i64 inn, .slice sa sl sc, .slice ta tl tc] 26)) (.cells #[.int .i64 d, .int .i64 k, .int .i64 f, .int .i64 dp, .int .u32 lf, .int .u64 off, .int .u32 xof', .int .i64 nd', .int .i64 inn', .slice sa' sl' sc', .slice ta' tl' tc'] 26)
  rw [show (w.alloc (.cells #[.int .i64 d, .int .i64 k, .int .i64 f, .int .i64 dp, .int .u32 lf, .int .u64 off, .int .u32 xof, .int .i64 nd, .int .i64 inn, .slice sa sl sc, .slice ta tl tc] 26)).heap.size = w.heap.size + 1 by simp] at n1
  unfold pc
  go_enter Try.func41, Try.ntmps41
  refine wp_seq_k fun K hK => ?_
  have HK := TW.hide hK
  clear hK
  go_wp2
  refine HK.out _ _ ?_
  clear HK K
  generalize (w.alloc (.cells #[.int .i64 d, .int .i64 k, .int .i64 f, .int .i64 dp, .int .u32 lf, .int .u64 off, .int .u32 xof, .int .i64 nd, .int .i64 inn, .slice sa sl sc, .slice ta tl tc] 26)).alloc (.cells #[.int .i64 d, .int .i64 k, .int .i64 f, .int .i64 dp, .int .u32 lf, .int .u64 off, .int .u32 xof', .int .i64 nd', .int .i64 inn', .slice sa' sl' sc', .slice ta' tl' tc'] 26) = W at n0 n1 hb ⊢
  have g0 := blk_cell n0 (i := 0) (v := .int .i64 d) rfl
  have j0 := blk_cell n1 (i := 0) (v := .int .i64 d) rfl
  have l0 : (Instr.loadAt 3 (.pointer (some ⟨w.heap.size, 0, none⟩))).run Try.prog W = .ok (.int .i64 d) W := by go_simp
  have r0 : (Instr.loadAt 3 (.pointer (some ⟨w.heap.size + 1, 0, none⟩))).run Try.prog W = .ok (.int .i64 d) W := by go_simp
  have g1 := blk_cell n0 (i := 1) (v := .int .i64 k) rfl
  have j1 := blk_cell n1 (i := 1) (v := .int .i64 k) rfl
  have l1 : (Instr.loadAt 3 (.pointer (some ⟨w.heap.size, 1, none⟩))).run Try.prog W = .ok (.int .i64 k) W := by go_simp
  have r1 : (Instr.loadAt 3 (.pointer (some ⟨w.heap.size + 1, 1, none⟩))).run Try.prog W = .ok (.int .i64 k) W := by go_simp
  have g2 := blk_cell n0 (i := 2) (v := .int .i64 f) rfl
  have j2 := blk_cell n1 (i := 2) (v := .int .i64 f) rfl
  have l2 : (Instr.loadAt 3 (.pointer (some ⟨w.heap.size, 2, none⟩))).run Try.prog W = .ok (.int .i64 f) W := by go_simp
  have r2 : (Instr.loadAt 3 (.pointer (some ⟨w.heap.size + 1, 2, none⟩))).run Try.prog W = .ok (.int .i64 f) W := by go_simp
  have g3 := blk_cell n0 (i := 3) (v := .int .i64 dp) rfl
  have j3 := blk_cell n1 (i := 3) (v := .int .i64 dp) rfl
  have l3 : (Instr.loadAt 3 (.pointer (some ⟨w.heap.size, 3, none⟩))).run Try.prog W = .ok (.int .i64 dp) W := by go_simp
  have r3 : (Instr.loadAt 3 (.pointer (some ⟨w.heap.size + 1, 3, none⟩))).run Try.prog W = .ok (.int .i64 dp) W := by go_simp
  have g4 := blk_cell n0 (i := 4) (v := .int .u32 lf) rfl
  have j4 := blk_cell n1 (i := 4) (v := .int .u32 lf) rfl
  have l4 : (Instr.loadAt 22 (.pointer (some ⟨w.heap.size, 4, none⟩))).run Try.prog W = .ok (.int .u32 lf) W := by go_simp
  have r4 : (Instr.loadAt 22 (.pointer (some ⟨w.heap.size + 1, 4, none⟩))).run Try.prog W = .ok (.int .u32 lf) W := by go_simp
  have g5 := blk_cell n0 (i := 5) (v := .int .u64 off) rfl
  have j5 := blk_cell n1 (i := 5) (v := .int .u64 off) rfl
  have l5 : (Instr.loadAt 23 (.pointer (some ⟨w.heap.size, 5, none⟩))).run Try.prog W = .ok (.int .u64 off) W := by go_simp
  have r5 : (Instr.loadAt 23 (.pointer (some ⟨w.heap.size + 1, 5, none⟩))).run Try.prog W = .ok (.int .u64 off) W := by go_simp
  have g6 := blk_cell n0 (i := 6) (v := .int .u32 xof) rfl
  have j6 := blk_cell n1 (i := 6) (v := .int .u32 xof') rfl
  have l6 : (Instr.loadAt 22 (.pointer (some ⟨w.heap.size, 6, none⟩))).run Try.prog W = .ok (.int .u32 xof) W := by go_simp
  have r6 : (Instr.loadAt 22 (.pointer (some ⟨w.heap.size + 1, 6, none⟩))).run Try.prog W = .ok (.int .u32 xof') W := by go_simp
  have HB := TW.hide hb
  have ef : (xof == xof') = false := by simp [q]
  clear hb n0 n1
  generalize Value.agg #[.int .i64 d, .int .i64 k, .int .i64 f, .int .i64 dp, .int .u32 lf, .int .u64 off, .int .u32 xof, .int .i64 nd, .int .i64 inn, .slice sa sl sc, .slice ta tl tc] = V0
  generalize Value.agg #[.int .i64 d, .int .i64 k, .int .i64 f, .int .i64 dp, .int .u32 lf, .int .u64 off, .int .u32 xof', .int .i64 nd', .int .i64 inn', .slice sa' sl' sc', .slice ta' tl' tc'] = V1
  simp only [List.append_eq, List.cons_append, List.nil_append]
  refine wp_seq ?_
  refine wp_region_lit ?_
  refine wpList_val (.pointer (some ⟨w.heap.size, 0, none⟩)) (by kernel_rfl) (by kernel_rfl) ?_
  simp only [Act.put, List.setIfInBounds_toArray, List.set_cons_zero, List.set_cons_succ]
  refine wpList_val (.int .i64 d) (by kernel_rfl) (val_load rfl (by kernel_rfl) l0) ?_
  simp only [Act.put, List.setIfInBounds_toArray, List.set_cons_zero, List.set_cons_succ]
  refine wpList_val (.pointer (some ⟨w.heap.size + 1, 0, none⟩)) (by kernel_rfl) (by kernel_rfl) ?_
  simp only [Act.put, List.setIfInBounds_toArray, List.set_cons_zero, List.set_cons_succ]
  refine wpList_val (.int .i64 d) (by kernel_rfl) (val_load rfl (by kernel_rfl) r0) ?_
  simp only [Act.put, List.setIfInBounds_toArray, List.set_cons_zero, List.set_cons_succ]
  refine wpList_val (.bool true) (by kernel_rfl) (val_eql (m := d) (n := d) (k := .i64) rfl (by kernel_rfl) (by kernel_rfl) (by kernel_rfl) (by simp)) ?_
  refine wpList_val (.bool true) rfl rfl ?_
  simp only [Act.put, List.setIfInBounds_toArray, List.set_cons_zero, List.set_cons_succ]
  refine wpList_val (.pointer (some ⟨w.heap.size, 1, none⟩)) (by kernel_rfl) (by kernel_rfl) ?_
  simp only [Act.put, List.setIfInBounds_toArray, List.set_cons_zero, List.set_cons_succ]
  refine wpList_val (.int .i64 k) (by kernel_rfl) (val_load rfl (by kernel_rfl) l1) ?_
  simp only [Act.put, List.setIfInBounds_toArray, List.set_cons_zero, List.set_cons_succ]
  refine wpList_val (.pointer (some ⟨w.heap.size + 1, 1, none⟩)) (by kernel_rfl) (by kernel_rfl) ?_
  simp only [Act.put, List.setIfInBounds_toArray, List.set_cons_zero, List.set_cons_succ]
  refine wpList_val (.int .i64 k) (by kernel_rfl) (val_load rfl (by kernel_rfl) r1) ?_
  simp only [Act.put, List.setIfInBounds_toArray, List.set_cons_zero, List.set_cons_succ]
  refine wpList_val (.bool true) (by kernel_rfl) (val_eql (m := k) (n := k) (k := .i64) rfl (by kernel_rfl) (by kernel_rfl) (by kernel_rfl) (by simp)) ?_
  refine wpList_val (.bool true) rfl rfl ?_
  refine wpList_val (.bool true) rfl rfl ?_
  simp only [Act.put, List.setIfInBounds_toArray, List.set_cons_zero, List.set_cons_succ]
  refine wpList_val (.pointer (some ⟨w.heap.size, 2, none⟩)) (by kernel_rfl) (by kernel_rfl) ?_
  simp only [Act.put, List.setIfInBounds_toArray, List.set_cons_zero, List.set_cons_succ]
  refine wpList_val (.int .i64 f) (by kernel_rfl) (val_load rfl (by kernel_rfl) l2) ?_
  simp only [Act.put, List.setIfInBounds_toArray, List.set_cons_zero, List.set_cons_succ]
  refine wpList_val (.pointer (some ⟨w.heap.size + 1, 2, none⟩)) (by kernel_rfl) (by kernel_rfl) ?_
  simp only [Act.put, List.setIfInBounds_toArray, List.set_cons_zero, List.set_cons_succ]
  refine wpList_val (.int .i64 f) (by kernel_rfl) (val_load rfl (by kernel_rfl) r2) ?_
  simp only [Act.put, List.setIfInBounds_toArray, List.set_cons_zero, List.set_cons_succ]
  refine wpList_val (.bool true) (by kernel_rfl) (val_eql (m := f) (n := f) (k := .i64) rfl (by kernel_rfl) (by kernel_rfl) (by kernel_rfl) (by simp)) ?_
  refine wpList_val (.bool true) rfl rfl ?_
  refine wpList_val (.bool true) rfl rfl ?_
  simp only [Act.put, List.setIfInBounds_toArray, List.set_cons_zero, List.set_cons_succ]
  refine wpList_val (.pointer (some ⟨w.heap.size, 3, none⟩)) (by kernel_rfl) (by kernel_rfl) ?_
  simp only [Act.put, List.setIfInBounds_toArray, List.set_cons_zero, List.set_cons_succ]
  refine wpList_val (.int .i64 dp) (by kernel_rfl) (val_load rfl (by kernel_rfl) l3) ?_
  simp only [Act.put, List.setIfInBounds_toArray, List.set_cons_zero, List.set_cons_succ]
  refine wpList_val (.pointer (some ⟨w.heap.size + 1, 3, none⟩)) (by kernel_rfl) (by kernel_rfl) ?_
  simp only [Act.put, List.setIfInBounds_toArray, List.set_cons_zero, List.set_cons_succ]
  refine wpList_val (.int .i64 dp) (by kernel_rfl) (val_load rfl (by kernel_rfl) r3) ?_
  simp only [Act.put, List.setIfInBounds_toArray, List.set_cons_zero, List.set_cons_succ]
  refine wpList_val (.bool true) (by kernel_rfl) (val_eql (m := dp) (n := dp) (k := .i64) rfl (by kernel_rfl) (by kernel_rfl) (by kernel_rfl) (by simp)) ?_
  refine wpList_val (.bool true) rfl rfl ?_
  refine wpList_val (.bool true) rfl rfl ?_
  simp only [Act.put, List.setIfInBounds_toArray, List.set_cons_zero, List.set_cons_succ]
  refine wpList_val (.pointer (some ⟨w.heap.size, 4, none⟩)) (by kernel_rfl) (by kernel_rfl) ?_
  simp only [Act.put, List.setIfInBounds_toArray, List.set_cons_zero, List.set_cons_succ]
  refine wpList_val (.int .u32 lf) (by kernel_rfl) (val_load rfl (by kernel_rfl) l4) ?_
  simp only [Act.put, List.setIfInBounds_toArray, List.set_cons_zero, List.set_cons_succ]
  refine wpList_val (.pointer (some ⟨w.heap.size + 1, 4, none⟩)) (by kernel_rfl) (by kernel_rfl) ?_
  simp only [Act.put, List.setIfInBounds_toArray, List.set_cons_zero, List.set_cons_succ]
  refine wpList_val (.int .u32 lf) (by kernel_rfl) (val_load rfl (by kernel_rfl) r4) ?_
  simp only [Act.put, List.setIfInBounds_toArray, List.set_cons_zero, List.set_cons_succ]
  refine wpList_val (.bool true) (by kernel_rfl) (val_eql (m := lf) (n := lf) (k := .u32) rfl (by kernel_rfl) (by kernel_rfl) (by kernel_rfl) (by simp)) ?_
  refine wpList_val (.bool true) rfl rfl ?_
  refine wpList_val (.bool true) rfl rfl ?_
  simp only [Act.put, List.setIfInBounds_toArray, List.set_cons_zero, List.set_cons_succ]
  refine wpList_val (.pointer (some ⟨w.heap.size, 5, none⟩)) (by kernel_rfl) (by kernel_rfl) ?_
  simp only [Act.put, List.setIfInBounds_toArray, List.set_cons_zero, List.set_cons_succ]
  refine wpList_val (.int .u64 off) (by kernel_rfl) (val_load rfl (by kernel_rfl) l5) ?_
  simp only [Act.put, List.setIfInBounds_toArray, List.set_cons_zero, List.set_cons_succ]
  refine wpList_val (.pointer (some ⟨w.heap.size + 1, 5, none⟩)) (by kernel_rfl) (by kernel_rfl) ?_
  simp only [Act.put, List.setIfInBounds_toArray, List.set_cons_zero, List.set_cons_succ]
  refine wpList_val (.int .u64 off) (by kernel_rfl) (val_load rfl (by kernel_rfl) r5) ?_
  simp only [Act.put, List.setIfInBounds_toArray, List.set_cons_zero, List.set_cons_succ]
  refine wpList_val (.bool true) (by kernel_rfl) (val_eql (m := off) (n := off) (k := .u64) rfl (by kernel_rfl) (by kernel_rfl) (by kernel_rfl) (by simp)) ?_
  refine wpList_val (.bool true) rfl rfl ?_
  refine wpList_val (.bool true) rfl rfl ?_
  simp only [Act.put, List.setIfInBounds_toArray, List.set_cons_zero, List.set_cons_succ]
  refine wpList_val (.pointer (some ⟨w.heap.size, 6, none⟩)) (by kernel_rfl) (by kernel_rfl) ?_
  simp only [Act.put, List.setIfInBounds_toArray, List.set_cons_zero, List.set_cons_succ]
  refine wpList_val (.int .u32 xof) (by kernel_rfl) (val_load rfl (by kernel_rfl) l6) ?_
  simp only [Act.put, List.setIfInBounds_toArray, List.set_cons_zero, List.set_cons_succ]
  refine wpList_val (.pointer (some ⟨w.heap.size + 1, 6, none⟩)) (by kernel_rfl) (by kernel_rfl) ?_
  simp only [Act.put, List.setIfInBounds_toArray, List.set_cons_zero, List.set_cons_succ]
  refine wpList_val (.int .u32 xof') (by kernel_rfl) (val_load rfl (by kernel_rfl) r6) ?_
  simp only [Act.put, List.setIfInBounds_toArray, List.set_cons_zero, List.set_cons_succ]
  refine wpList_val (.bool false) (by kernel_rfl) (val_eql (m := xof) (n := xof') (k := .u32) rfl (by kernel_rfl) (by kernel_rfl) (by kernel_rfl) ef) ?_
  refine wpList_val (.bool false) rfl rfl ?_
  refine wpList_val (.bool false) rfl rfl ?_
  simp only [Act.put, List.setIfInBounds_toArray, List.set_cons_zero, List.set_cons_succ]
  go_skip
  refine wpList_val (.bool false) rfl rfl ?_
  refine wpList_val (.bool false) rfl rfl ?_
  simp only [Act.put, List.setIfInBounds_toArray, List.set_cons_zero, List.set_cons_succ]
  go_skip
  refine wpList_val (.bool false) rfl rfl ?_
  refine wpList_val (.bool false) rfl rfl ?_
  simp only [Act.put, List.setIfInBounds_toArray, List.set_cons_zero, List.set_cons_succ]
  go_skip
  refine wpList_val (.bool false) rfl rfl ?_
  refine wpList_val (.bool false) rfl rfl ?_
  simp only [Act.put, List.setIfInBounds_toArray, List.set_cons_zero, List.set_cons_succ]
  go_skip
  refine wpList_val (.bool false) rfl rfl ?_
  refine wpList_val (.bool false) rfl rfl ?_
  simp only [Act.put, List.setIfInBounds_toArray, List.set_cons_zero, List.set_cons_succ]
  refine wpList_nil ?_
  simp only [Exit.then]
  refine wp_ret ?_
  refine bodyPost_ret (results_tmp Try.results41 _ _ _) rfl ?_
  exact ⟨rfl, HB.out⟩
set_option maxRecDepth 100000 in
set_option maxHeartbeats 8000000 in
theorem ralikeN7 (d k f dp lf off xof nd inn nd' inn' : Int) (sa ta sa' ta' : Option Addr) (sl tl sl' tl' sc tc sc' tc' : Nat) (w : World) (q : ¬ nd = nd') :
    Calls Try.prog 41 #[.agg (pc d k f dp lf off xof nd inn (.slice sa sl sc) (.slice ta tl tc)), .agg (pc d k f dp lf off xof nd' inn' (.slice sa' sl' sc') (.slice ta' tl' tc'))] w fun e w' =>
      e = .returned (.bool false) ∧ Below w.heap.size w w' := by
  have hb := (((Below.refl w.heap.size w).alloc (Nat.le_refl _) (.cells #[.int .i64 d, .int .i64 k, .int .i64 f, .int .i64 dp, .int .u32 lf, .int .u64 off, .int .u32 xof, .int .i64 nd, .int .i64 inn, .slice sa sl sc, .slice ta tl tc] 26)).alloc (by simp) (.cells #[.int .i64 d, .int .i64 k, .int .i64 f, .int .i64 dp, .int .u32 lf, .int .u64 off, .int .u32 xof, .int .i64 nd', .int .i64 inn', .slice sa' sl' sc', .slice ta' tl' tc'] 26))
  have n0 := blk_alloc (o' := .cells #[.int .i64 d, .int .i64 k, .int .i64 f, .int .i64 dp, .int .u32 lf, .int .u64 off, .int .u32 xof, .int .i64 nd', .int .i64 inn', .slice sa' sl' sc', .slice ta' tl' tc'] 26) (heap_alloc_new w (.cells #[.int .i64 d, .int .i64 k, .int .i64 f, .int .i64 dp, .int .u32 lf, .int .u64 off, .int .u32 xof, .int .i64 nd, .int .i64 inn, .slice sa sl sc, .slice ta tl tc] 26))
  have n1 := heap_alloc_new (w.alloc (.cells #[.int .i64 d, .int .i64 k, .int .i64 f, .int .i64 dp, .int .u32 lf, .int .u64 off, .int .u32 xof, .int .i64 nd, .int .i64 inn, .slice sa sl sc, .slice ta tl tc] 26)) (.cells #[.int .i64 d, .int .i64 k, .int .i64 f, .int .i64 dp, .int .u32 lf, .int .u64 off, .int .u32 xof, .int .i64 nd', .int .i64 inn', .slice sa' sl' sc', .slice ta' tl' tc'] 26)
  rw [show (w.alloc (.cells #[.int .i64 d, .int .i64 k, .int .i64 f, .int .i64 dp, .int .u32 lf, .int .u64 off, .int .u32 xof, .int .i64 nd, .int .i64 inn, .slice sa sl sc, .slice ta tl tc] 26)).heap.size = w.heap.size + 1 by simp] at n1
  unfold pc
  go_enter Try.func41, Try.ntmps41
  refine wp_seq_k fun K hK => ?_
  have HK := TW.hide hK
  clear hK
  go_wp2
  refine HK.out _ _ ?_
  clear HK K
  generalize (w.alloc (.cells #[.int .i64 d, .int .i64 k, .int .i64 f, .int .i64 dp, .int .u32 lf, .int .u64 off, .int .u32 xof, .int .i64 nd, .int .i64 inn, .slice sa sl sc, .slice ta tl tc] 26)).alloc (.cells #[.int .i64 d, .int .i64 k, .int .i64 f, .int .i64 dp, .int .u32 lf, .int .u64 off, .int .u32 xof, .int .i64 nd', .int .i64 inn', .slice sa' sl' sc', .slice ta' tl' tc'] 26) = W at n0 n1 hb ⊢
  have g0 := blk_cell n0 (i := 0) (v := .int .i64 d) rfl
  have j0 := blk_cell n1 (i := 0) (v := .int .i64 d) rfl
  have l0 : (Instr.loadAt 3 (.pointer (some ⟨w.heap.size, 0, none⟩))).run Try.prog W = .ok (.int .i64 d) W := by go_simp
  have r0 : (Instr.loadAt 3 (.pointer (some ⟨w.heap.size + 1, 0, none⟩))).run Try.prog W = .ok (.int .i64 d) W := by go_simp
  have g1 := blk_cell n0 (i := 1) (v := .int .i64 k) rfl
  have j1 := blk_cell n1 (i := 1) (v := .int .i64 k) rfl
  have l1 : (Instr.loadAt 3 (.pointer (some ⟨w.heap.size, 1, none⟩))).run Try.prog W = .ok (.int .i64 k) W := by go_simp
  have r1 : (Instr.loadAt 3 (.pointer (some ⟨w.heap.size + 1, 1, none⟩))).run Try.prog W = .ok (.int .i64 k) W := by go_simp
  have g2 := blk_cell n0 (i := 2) (v := .int .i64 f) rfl
  have j2 := blk_cell n1 (i := 2) (v := .int .i64 f) rfl
  have l2 : (Instr.loadAt 3 (.pointer (some ⟨w.heap.size, 2, none⟩))).run Try.prog W = .ok (.int .i64 f) W := by go_simp
  have r2 : (Instr.loadAt 3 (.pointer (some ⟨w.heap.size + 1, 2, none⟩))).run Try.prog W = .ok (.int .i64 f) W := by go_simp
  have g3 := blk_cell n0 (i := 3) (v := .int .i64 dp) rfl
  have j3 := blk_cell n1 (i := 3) (v := .int .i64 dp) rfl
  have l3 : (Instr.loadAt 3 (.pointer (some ⟨w.heap.size, 3, none⟩))).run Try.prog W = .ok (.int .i64 dp) W := by go_simp
  have r3 : (Instr.loadAt 3 (.pointer (some ⟨w.heap.size + 1, 3, none⟩))).run Try.prog W = .ok (.int .i64 dp) W := by go_simp
  have g4 := blk_cell n0 (i := 4) (v := .int .u32 lf) rfl
  have j4 := blk_cell n1 (i := 4) (v := .int .u32 lf) rfl
  have l4 : (Instr.loadAt 22 (.pointer (some ⟨w.heap.size, 4, none⟩))).run Try.prog W = .ok (.int .u32 lf) W := by go_simp
  have r4 : (Instr.loadAt 22 (.pointer (some ⟨w.heap.size + 1, 4, none⟩))).run Try.prog W = .ok (.int .u32 lf) W := by go_simp
  have g5 := blk_cell n0 (i := 5) (v := .int .u64 off) rfl
  have j5 := blk_cell n1 (i := 5) (v := .int .u64 off) rfl
  have l5 : (Instr.loadAt 23 (.pointer (some ⟨w.heap.size, 5, none⟩))).run Try.prog W = .ok (.int .u64 off) W := by go_simp
  have r5 : (Instr.loadAt 23 (.pointer (some ⟨w.heap.size + 1, 5, none⟩))).run Try.prog W = .ok (.int .u64 off) W := by go_simp
  have g6 := blk_cell n0 (i := 6) (v := .int .u32 xof) rfl
  have j6 := blk_cell n1 (i := 6) (v := .int .u32 xof) rfl
  have l6 : (Instr.loadAt 22 (.pointer (some ⟨w.heap.size, 6, none⟩))).run Try.prog W = .ok (.int .u32 xof) W := by go_simp
  have r6 : (Instr.loadAt 22 (.pointer (some ⟨w.heap.size + 1, 6, none⟩))).run Try.prog W = .ok (.int .u32 xof) W := by go_simp
  have g7 := blk_cell n0 (i := 7) (v := .int .i64 nd) rfl
  have j7 := blk_cell n1 (i := 7) (v := .int .i64 nd') rfl
  have l7 : (Instr.loadAt 3 (.pointer (some ⟨w.heap.size, 7, none⟩))).run Try.prog W = .ok (.int .i64 nd) W := by go_simp
  have r7 : (Instr.loadAt 3 (.pointer (some ⟨w.heap.size + 1, 7, none⟩))).run Try.prog W = .ok (.int .i64 nd') W := by go_simp
  have HB := TW.hide hb
  have ef : (nd == nd') = false := by simp [q]
  clear hb n0 n1
  generalize Value.agg #[.int .i64 d, .int .i64 k, .int .i64 f, .int .i64 dp, .int .u32 lf, .int .u64 off, .int .u32 xof, .int .i64 nd, .int .i64 inn, .slice sa sl sc, .slice ta tl tc] = V0
  generalize Value.agg #[.int .i64 d, .int .i64 k, .int .i64 f, .int .i64 dp, .int .u32 lf, .int .u64 off, .int .u32 xof, .int .i64 nd', .int .i64 inn', .slice sa' sl' sc', .slice ta' tl' tc'] = V1
  simp only [List.append_eq, List.cons_append, List.nil_append]
  refine wp_seq ?_
  refine wp_region_lit ?_
  refine wpList_val (.pointer (some ⟨w.heap.size, 0, none⟩)) (by kernel_rfl) (by kernel_rfl) ?_
  simp only [Act.put, List.setIfInBounds_toArray, List.set_cons_zero, List.set_cons_succ]
  refine wpList_val (.int .i64 d) (by kernel_rfl) (val_load rfl (by kernel_rfl) l0) ?_
  simp only [Act.put, List.setIfInBounds_toArray, List.set_cons_zero, List.set_cons_succ]
  refine wpList_val (.pointer (some ⟨w.heap.size + 1, 0, none⟩)) (by kernel_rfl) (by kernel_rfl) ?_
  simp only [Act.put, List.setIfInBounds_toArray, List.set_cons_zero, List.set_cons_succ]
  refine wpList_val (.int .i64 d) (by kernel_rfl) (val_load rfl (by kernel_rfl) r0) ?_
  simp only [Act.put, List.setIfInBounds_toArray, List.set_cons_zero, List.set_cons_succ]
  refine wpList_val (.bool true) (by kernel_rfl) (val_eql (m := d) (n := d) (k := .i64) rfl (by kernel_rfl) (by kernel_rfl) (by kernel_rfl) (by simp)) ?_
  refine wpList_val (.bool true) rfl rfl ?_
  simp only [Act.put, List.setIfInBounds_toArray, List.set_cons_zero, List.set_cons_succ]
  refine wpList_val (.pointer (some ⟨w.heap.size, 1, none⟩)) (by kernel_rfl) (by kernel_rfl) ?_
  simp only [Act.put, List.setIfInBounds_toArray, List.set_cons_zero, List.set_cons_succ]
  refine wpList_val (.int .i64 k) (by kernel_rfl) (val_load rfl (by kernel_rfl) l1) ?_
  simp only [Act.put, List.setIfInBounds_toArray, List.set_cons_zero, List.set_cons_succ]
  refine wpList_val (.pointer (some ⟨w.heap.size + 1, 1, none⟩)) (by kernel_rfl) (by kernel_rfl) ?_
  simp only [Act.put, List.setIfInBounds_toArray, List.set_cons_zero, List.set_cons_succ]
  refine wpList_val (.int .i64 k) (by kernel_rfl) (val_load rfl (by kernel_rfl) r1) ?_
  simp only [Act.put, List.setIfInBounds_toArray, List.set_cons_zero, List.set_cons_succ]
  refine wpList_val (.bool true) (by kernel_rfl) (val_eql (m := k) (n := k) (k := .i64) rfl (by kernel_rfl) (by kernel_rfl) (by kernel_rfl) (by simp)) ?_
  refine wpList_val (.bool true) rfl rfl ?_
  refine wpList_val (.bool true) rfl rfl ?_
  simp only [Act.put, List.setIfInBounds_toArray, List.set_cons_zero, List.set_cons_succ]
  refine wpList_val (.pointer (some ⟨w.heap.size, 2, none⟩)) (by kernel_rfl) (by kernel_rfl) ?_
  simp only [Act.put, List.setIfInBounds_toArray, List.set_cons_zero, List.set_cons_succ]
  refine wpList_val (.int .i64 f) (by kernel_rfl) (val_load rfl (by kernel_rfl) l2) ?_
  simp only [Act.put, List.setIfInBounds_toArray, List.set_cons_zero, List.set_cons_succ]
  refine wpList_val (.pointer (some ⟨w.heap.size + 1, 2, none⟩)) (by kernel_rfl) (by kernel_rfl) ?_
  simp only [Act.put, List.setIfInBounds_toArray, List.set_cons_zero, List.set_cons_succ]
  refine wpList_val (.int .i64 f) (by kernel_rfl) (val_load rfl (by kernel_rfl) r2) ?_
  simp only [Act.put, List.setIfInBounds_toArray, List.set_cons_zero, List.set_cons_succ]
  refine wpList_val (.bool true) (by kernel_rfl) (val_eql (m := f) (n := f) (k := .i64) rfl (by kernel_rfl) (by kernel_rfl) (by kernel_rfl) (by simp)) ?_
  refine wpList_val (.bool true) rfl rfl ?_
  refine wpList_val (.bool true) rfl rfl ?_
  simp only [Act.put, List.setIfInBounds_toArray, List.set_cons_zero, List.set_cons_succ]
  refine wpList_val (.pointer (some ⟨w.heap.size, 3, none⟩)) (by kernel_rfl) (by kernel_rfl) ?_
  simp only [Act.put, List.setIfInBounds_toArray, List.set_cons_zero, List.set_cons_succ]
  refine wpList_val (.int .i64 dp) (by kernel_rfl) (val_load rfl (by kernel_rfl) l3) ?_
  simp only [Act.put, List.setIfInBounds_toArray, List.set_cons_zero, List.set_cons_succ]
  refine wpList_val (.pointer (some ⟨w.heap.size + 1, 3, none⟩)) (by kernel_rfl) (by kernel_rfl) ?_
  simp only [Act.put, List.setIfInBounds_toArray, List.set_cons_zero, List.set_cons_succ]
  refine wpList_val (.int .i64 dp) (by kernel_rfl) (val_load rfl (by kernel_rfl) r3) ?_
  simp only [Act.put, List.setIfInBounds_toArray, List.set_cons_zero, List.set_cons_succ]
  refine wpList_val (.bool true) (by kernel_rfl) (val_eql (m := dp) (n := dp) (k := .i64) rfl (by kernel_rfl) (by kernel_rfl) (by kernel_rfl) (by simp)) ?_
  refine wpList_val (.bool true) rfl rfl ?_
  refine wpList_val (.bool true) rfl rfl ?_
  simp only [Act.put, List.setIfInBounds_toArray, List.set_cons_zero, List.set_cons_succ]
  refine wpList_val (.pointer (some ⟨w.heap.size, 4, none⟩)) (by kernel_rfl) (by kernel_rfl) ?_
  simp only [Act.put, List.setIfInBounds_toArray, List.set_cons_zero, List.set_cons_succ]
  refine wpList_val (.int .u32 lf) (by kernel_rfl) (val_load rfl (by kernel_rfl) l4) ?_
  simp only [Act.put, List.setIfInBounds_toArray, List.set_cons_zero, List.set_cons_succ]
  refine wpList_val (.pointer (some ⟨w.heap.size + 1, 4, none⟩)) (by kernel_rfl) (by kernel_rfl) ?_
  simp only [Act.put, List.setIfInBounds_toArray, List.set_cons_zero, List.set_cons_succ]
  refine wpList_val (.int .u32 lf) (by kernel_rfl) (val_load rfl (by kernel_rfl) r4) ?_
  simp only [Act.put, List.setIfInBounds_toArray, List.set_cons_zero, List.set_cons_succ]
  refine wpList_val (.bool true) (by kernel_rfl) (val_eql (m := lf) (n := lf) (k := .u32) rfl (by kernel_rfl) (by kernel_rfl) (by kernel_rfl) (by simp)) ?_
  refine wpList_val (.bool true) rfl rfl ?_
  refine wpList_val (.bool true) rfl rfl ?_
  simp only [Act.put, List.setIfInBounds_toArray, List.set_cons_zero, List.set_cons_succ]
  refine wpList_val (.pointer (some ⟨w.heap.size, 5, none⟩)) (by kernel_rfl) (by kernel_rfl) ?_
  simp only [Act.put, List.setIfInBounds_toArray, List.set_cons_zero, List.set_cons_succ]
  refine wpList_val (.int .u64 off) (by kernel_rfl) (val_load rfl (by kernel_rfl) l5) ?_
  simp only [Act.put, List.setIfInBounds_toArray, List.set_cons_zero, List.set_cons_succ]
  refine wpList_val (.pointer (some ⟨w.heap.size + 1, 5, none⟩)) (by kernel_rfl) (by kernel_rfl) ?_
  simp only [Act.put, List.setIfInBounds_toArray, List.set_cons_zero, List.set_cons_succ]
  refine wpList_val (.int .u64 off) (by kernel_rfl) (val_load rfl (by kernel_rfl) r5) ?_
  simp only [Act.put, List.setIfInBounds_toArray, List.set_cons_zero, List.set_cons_succ]
  refine wpList_val (.bool true) (by kernel_rfl) (val_eql (m := off) (n := off) (k := .u64) rfl (by kernel_rfl) (by kernel_rfl) (by kernel_rfl) (by simp)) ?_
  refine wpList_val (.bool true) rfl rfl ?_
  refine wpList_val (.bool true) rfl rfl ?_
  simp only [Act.put, List.setIfInBounds_toArray, List.set_cons_zero, List.set_cons_succ]
  refine wpList_val (.pointer (some ⟨w.heap.size, 6, none⟩)) (by kernel_rfl) (by kernel_rfl) ?_
  simp only [Act.put, List.setIfInBounds_toArray, List.set_cons_zero, List.set_cons_succ]
  refine wpList_val (.int .u32 xof) (by kernel_rfl) (val_load rfl (by kernel_rfl) l6) ?_
  simp only [Act.put, List.setIfInBounds_toArray, List.set_cons_zero, List.set_cons_succ]
  refine wpList_val (.pointer (some ⟨w.heap.size + 1, 6, none⟩)) (by kernel_rfl) (by kernel_rfl) ?_
  simp only [Act.put, List.setIfInBounds_toArray, List.set_cons_zero, List.set_cons_succ]
  refine wpList_val (.int .u32 xof) (by kernel_rfl) (val_load rfl (by kernel_rfl) r6) ?_
  simp only [Act.put, List.setIfInBounds_toArray, List.set_cons_zero, List.set_cons_succ]
  refine wpList_val (.bool true) (by kernel_rfl) (val_eql (m := xof) (n := xof) (k := .u32) rfl (by kernel_rfl) (by kernel_rfl) (by kernel_rfl) (by simp)) ?_
  refine wpList_val (.bool true) rfl rfl ?_
  refine wpList_val (.bool true) rfl rfl ?_
  simp only [Act.put, List.setIfInBounds_toArray, List.set_cons_zero, List.set_cons_succ]
  refine wpList_val (.pointer (some ⟨w.heap.size, 7, none⟩)) (by kernel_rfl) (by kernel_rfl) ?_
  simp only [Act.put, List.setIfInBounds_toArray, List.set_cons_zero, List.set_cons_succ]
  refine wpList_val (.int .i64 nd) (by kernel_rfl) (val_load rfl (by kernel_rfl) l7) ?_
  simp only [Act.put, List.setIfInBounds_toArray, List.set_cons_zero, List.set_cons_succ]
  refine wpList_val (.pointer (some ⟨w.heap.size + 1, 7, none⟩)) (by kernel_rfl) (by kernel_rfl) ?_
  simp only [Act.put, List.setIfInBounds_toArray, List.set_cons_zero, List.set_cons_succ]
  refine wpList_val (.int .i64 nd') (by kernel_rfl) (val_load rfl (by kernel_rfl) r7) ?_
  simp only [Act.put, List.setIfInBounds_toArray, List.set_cons_zero, List.set_cons_succ]
  refine wpList_val (.bool false) (by kernel_rfl) (val_eql (m := nd) (n := nd') (k := .i64) rfl (by kernel_rfl) (by kernel_rfl) (by kernel_rfl) ef) ?_
  refine wpList_val (.bool false) rfl rfl ?_
  refine wpList_val (.bool false) rfl rfl ?_
  simp only [Act.put, List.setIfInBounds_toArray, List.set_cons_zero, List.set_cons_succ]
  go_skip
  refine wpList_val (.bool false) rfl rfl ?_
  refine wpList_val (.bool false) rfl rfl ?_
  simp only [Act.put, List.setIfInBounds_toArray, List.set_cons_zero, List.set_cons_succ]
  go_skip
  refine wpList_val (.bool false) rfl rfl ?_
  refine wpList_val (.bool false) rfl rfl ?_
  simp only [Act.put, List.setIfInBounds_toArray, List.set_cons_zero, List.set_cons_succ]
  go_skip
  refine wpList_val (.bool false) rfl rfl ?_
  refine wpList_val (.bool false) rfl rfl ?_
  simp only [Act.put, List.setIfInBounds_toArray, List.set_cons_zero, List.set_cons_succ]
  refine wpList_nil ?_
  simp only [Exit.then]
  refine wp_ret ?_
  refine bodyPost_ret (results_tmp Try.results41 _ _ _) rfl ?_
  exact ⟨rfl, HB.out⟩
set_option maxRecDepth 100000 in
set_option maxHeartbeats 8000000 in
theorem ralikeN8 (d k f dp lf off xof nd inn inn' : Int) (sa ta sa' ta' : Option Addr) (sl tl sl' tl' sc tc sc' tc' : Nat) (w : World) (q : ¬ inn = inn') :
    Calls Try.prog 41 #[.agg (pc d k f dp lf off xof nd inn (.slice sa sl sc) (.slice ta tl tc)), .agg (pc d k f dp lf off xof nd inn' (.slice sa' sl' sc') (.slice ta' tl' tc'))] w fun e w' =>
      e = .returned (.bool false) ∧ Below w.heap.size w w' := by
  have hb := (((Below.refl w.heap.size w).alloc (Nat.le_refl _) (.cells #[.int .i64 d, .int .i64 k, .int .i64 f, .int .i64 dp, .int .u32 lf, .int .u64 off, .int .u32 xof, .int .i64 nd, .int .i64 inn, .slice sa sl sc, .slice ta tl tc] 26)).alloc (by simp) (.cells #[.int .i64 d, .int .i64 k, .int .i64 f, .int .i64 dp, .int .u32 lf, .int .u64 off, .int .u32 xof, .int .i64 nd, .int .i64 inn', .slice sa' sl' sc', .slice ta' tl' tc'] 26))
  have n0 := blk_alloc (o' := .cells #[.int .i64 d, .int .i64 k, .int .i64 f, .int .i64 dp, .int .u32 lf, .int .u64 off, .int .u32 xof, .int .i64 nd, .int .i64 inn', .slice sa' sl' sc', .slice ta' tl' tc'] 26) (heap_alloc_new w (.cells #[.int .i64 d, .int .i64 k, .int .i64 f, .int .i64 dp, .int .u32 lf, .int .u64 off, .int .u32 xof, .int .i64 nd, .int .i64 inn, .slice sa sl sc, .slice ta tl tc] 26))
  have n1 := heap_alloc_new (w.alloc (.cells #[.int .i64 d, .int .i64 k, .int .i64 f, .int .i64 dp, .int .u32 lf, .int .u64 off, .int .u32 xof, .int .i64 nd, .int .i64 inn, .slice sa sl sc, .slice ta tl tc] 26)) (.cells #[.int .i64 d, .int .i64 k, .int .i64 f, .int .i64 dp, .int .u32 lf, .int .u64 off, .int .u32 xof, .int .i64 nd, .int .i64 inn', .slice sa' sl' sc', .slice ta' tl' tc'] 26)
  rw [show (w.alloc (.cells #[.int .i64 d, .int .i64 k, .int .i64 f, .int .i64 dp, .int .u32 lf, .int .u64 off, .int .u32 xof, .int .i64 nd, .int .i64 inn, .slice sa sl sc, .slice ta tl tc] 26)).heap.size = w.heap.size + 1 by simp] at n1
  unfold pc
  go_enter Try.func41, Try.ntmps41
  refine wp_seq_k fun K hK => ?_
  have HK := TW.hide hK
  clear hK
  go_wp2
  refine HK.out _ _ ?_
  clear HK K
  generalize (w.alloc (.cells #[.int .i64 d, .int .i64 k, .int .i64 f, .int .i64 dp, .int .u32 lf, .int .u64 off, .int .u32 xof, .int .i64 nd, .int .i64 inn, .slice sa sl sc, .slice ta tl tc] 26)).alloc (.cells #[.int .i64 d, .int .i64 k, .int .i64 f, .int .i64 dp, .int .u32 lf, .int .u64 off, .int .u32 xof, .int .i64 nd, .int .i64 inn', .slice sa' sl' sc', .slice ta' tl' tc'] 26) = W at n0 n1 hb ⊢
  have g0 := blk_cell n0 (i := 0) (v := .int .i64 d) rfl
  have j0 := blk_cell n1 (i := 0) (v := .int .i64 d) rfl
  have l0 : (Instr.loadAt 3 (.pointer (some ⟨w.heap.size, 0, none⟩))).run Try.prog W = .ok (.int .i64 d) W := by go_simp
  have r0 : (Instr.loadAt 3 (.pointer (some ⟨w.heap.size + 1, 0, none⟩))).run Try.prog W = .ok (.int .i64 d) W := by go_simp
  have g1 := blk_cell n0 (i := 1) (v := .int .i64 k) rfl
  have j1 := blk_cell n1 (i := 1) (v := .int .i64 k) rfl
  have l1 : (Instr.loadAt 3 (.pointer (some ⟨w.heap.size, 1, none⟩))).run Try.prog W = .ok (.int .i64 k) W := by go_simp
  have r1 : (Instr.loadAt 3 (.pointer (some ⟨w.heap.size + 1, 1, none⟩))).run Try.prog W = .ok (.int .i64 k) W := by go_simp
  have g2 := blk_cell n0 (i := 2) (v := .int .i64 f) rfl
  have j2 := blk_cell n1 (i := 2) (v := .int .i64 f) rfl
  have l2 : (Instr.loadAt 3 (.pointer (some ⟨w.heap.size, 2, none⟩))).run Try.prog W = .ok (.int .i64 f) W := by go_simp
  have r2 : (Instr.loadAt 3 (.pointer (some ⟨w.heap.size + 1, 2, none⟩))).run Try.prog W = .ok (.int .i64 f) W := by go_simp
  have g3 := blk_cell n0 (i := 3) (v := .int .i64 dp) rfl
  have j3 := blk_cell n1 (i := 3) (v := .int .i64 dp) rfl
  have l3 : (Instr.loadAt 3 (.pointer (some ⟨w.heap.size, 3, none⟩))).run Try.prog W = .ok (.int .i64 dp) W := by go_simp
  have r3 : (Instr.loadAt 3 (.pointer (some ⟨w.heap.size + 1, 3, none⟩))).run Try.prog W = .ok (.int .i64 dp) W := by go_simp
  have g4 := blk_cell n0 (i := 4) (v := .int .u32 lf) rfl
  have j4 := blk_cell n1 (i := 4) (v := .int .u32 lf) rfl
  have l4 : (Instr.loadAt 22 (.pointer (some ⟨w.heap.size, 4, none⟩))).run Try.prog W = .ok (.int .u32 lf) W := by go_simp
  have r4 : (Instr.loadAt 22 (.pointer (some ⟨w.heap.size + 1, 4, none⟩))).run Try.prog W = .ok (.int .u32 lf) W := by go_simp
  have g5 := blk_cell n0 (i := 5) (v := .int .u64 off) rfl
  have j5 := blk_cell n1 (i := 5) (v := .int .u64 off) rfl
  have l5 : (Instr.loadAt 23 (.pointer (some ⟨w.heap.size, 5, none⟩))).run Try.prog W = .ok (.int .u64 off) W := by go_simp
  have r5 : (Instr.loadAt 23 (.pointer (some ⟨w.heap.size + 1, 5, none⟩))).run Try.prog W = .ok (.int .u64 off) W := by go_simp
  have g6 := blk_cell n0 (i := 6) (v := .int .u32 xof) rfl
  have j6 := blk_cell n1 (i := 6) (v := .int .u32 xof) rfl
  have l6 : (Instr.loadAt 22 (.pointer (some ⟨w.heap.size, 6, none⟩))).run Try.prog W = .ok (.int .u32 xof) W := by go_simp
  have r6 : (Instr.loadAt 22 (.pointer (some ⟨w.heap.size + 1, 6, none⟩))).run Try.prog W = .ok (.int .u32 xof) W := by go_simp
  have g7 := blk_cell n0 (i := 7) (v := .int .i64 nd) rfl
  have j7 := blk_cell n1 (i := 7) (v := .int .i64 nd) rfl
  have l7 : (Instr.loadAt 3 (.pointer (some ⟨w.heap.size, 7, none⟩))).run Try.prog W = .ok (.int .i64 nd) W := by go_simp
  have r7 : (Instr.loadAt 3 (.pointer (some ⟨w.heap.size + 1, 7, none⟩))).run Try.prog W = .ok (.int .i64 nd) W := by go_simp
  have g8 := blk_cell n0 (i := 8) (v := .int .i64 inn) rfl
  have j8 := blk_cell n1 (i := 8) (v := .int .i64 inn') rfl
  have l8 : (Instr.loadAt 3 (.pointer (some ⟨w.heap.size, 8, none⟩))).run Try.prog W = .ok (.int .i64 inn) W := by go_simp
  have r8 : (Instr.loadAt 3 (.pointer (some ⟨w.heap.size + 1, 8, none⟩))).run Try.prog W = .ok (.int .i64 inn') W := by go_simp
  have HB := TW.hide hb
  have ef : (inn == inn') = false := by simp [q]
  clear hb n0 n1
  generalize Value.agg #[.int .i64 d, .int .i64 k, .int .i64 f, .int .i64 dp, .int .u32 lf, .int .u64 off, .int .u32 xof, .int .i64 nd, .int .i64 inn, .slice sa sl sc, .slice ta tl tc] = V0
  generalize Value.agg #[.int .i64 d, .int .i64 k, .int .i64 f, .int .i64 dp, .int .u32 lf, .int .u64 off, .int .u32 xof, .int .i64 nd, .int .i64 inn', .slice sa' sl' sc', .slice ta' tl' tc'] = V1
  simp only [List.append_eq, List.cons_append, List.nil_append]
  refine wp_seq ?_
  refine wp_region_lit ?_
  refine wpList_val (.pointer (some ⟨w.heap.size, 0, none⟩)) (by kernel_rfl) (by kernel_rfl) ?_
  simp only [Act.put, List.setIfInBounds_toArray, List.set_cons_zero, List.set_cons_succ]
  refine wpList_val (.int .i64 d) (by kernel_rfl) (val_load rfl (by kernel_rfl) l0) ?_
  simp only [Act.put, List.setIfInBounds_toArray, List.set_cons_zero, List.set_cons_succ]
  refine wpList_val (.pointer (some ⟨w.heap.size + 1, 0, none⟩)) (by kernel_rfl) (by kernel_rfl) ?_
  simp only [Act.put, List.setIfInBounds_toArray, List.set_cons_zero, List.set_cons_succ]
  refine wpList_val (.int .i64 d) (by kernel_rfl) (val_load rfl (by kernel_rfl) r0) ?_
  simp only [Act.put, List.setIfInBounds_toArray, List.set_cons_zero, List.set_cons_succ]
  refine wpList_val (.bool true) (by kernel_rfl) (val_eql (m := d) (n := d) (k := .i64) rfl (by kernel_rfl) (by kernel_rfl) (by kernel_rfl) (by simp)) ?_
  refine wpList_val (.bool true) rfl rfl ?_
  simp only [Act.put, List.setIfInBounds_toArray, List.set_cons_zero, List.set_cons_succ]
  refine wpList_val (.pointer (some ⟨w.heap.size, 1, none⟩)) (by kernel_rfl) (by kernel_rfl) ?_
  simp only [Act.put, List.setIfInBounds_toArray, List.set_cons_zero, List.set_cons_succ]
  refine wpList_val (.int .i64 k) (by kernel_rfl) (val_load rfl (by kernel_rfl) l1) ?_
  simp only [Act.put, List.setIfInBounds_toArray, List.set_cons_zero, List.set_cons_succ]
  refine wpList_val (.pointer (some ⟨w.heap.size + 1, 1, none⟩)) (by kernel_rfl) (by kernel_rfl) ?_
  simp only [Act.put, List.setIfInBounds_toArray, List.set_cons_zero, List.set_cons_succ]
  refine wpList_val (.int .i64 k) (by kernel_rfl) (val_load rfl (by kernel_rfl) r1) ?_
  simp only [Act.put, List.setIfInBounds_toArray, List.set_cons_zero, List.set_cons_succ]
  refine wpList_val (.bool true) (by kernel_rfl) (val_eql (m := k) (n := k) (k := .i64) rfl (by kernel_rfl) (by kernel_rfl) (by kernel_rfl) (by simp)) ?_
  refine wpList_val (.bool true) rfl rfl ?_
  refine wpList_val (.bool true) rfl rfl ?_
  simp only [Act.put, List.setIfInBounds_toArray, List.set_cons_zero, List.set_cons_succ]
  refine wpList_val (.pointer (some ⟨w.heap.size, 2, none⟩)) (by kernel_rfl) (by kernel_rfl) ?_
  simp only [Act.put, List.setIfInBounds_toArray, List.set_cons_zero, List.set_cons_succ]
  refine wpList_val (.int .i64 f) (by kernel_rfl) (val_load rfl (by kernel_rfl) l2) ?_
  simp only [Act.put, List.setIfInBounds_toArray, List.set_cons_zero, List.set_cons_succ]
  refine wpList_val (.pointer (some ⟨w.heap.size + 1, 2, none⟩)) (by kernel_rfl) (by kernel_rfl) ?_
  simp only [Act.put, List.setIfInBounds_toArray, List.set_cons_zero, List.set_cons_succ]
  refine wpList_val (.int .i64 f) (by kernel_rfl) (val_load rfl (by kernel_rfl) r2) ?_
  simp only [Act.put, List.setIfInBounds_toArray, List.set_cons_zero, List.set_cons_succ]
  refine wpList_val (.bool true) (by kernel_rfl) (val_eql (m := f) (n := f) (k := .i64) rfl (by kernel_rfl) (by kernel_rfl) (by kernel_rfl) (by simp)) ?_
  refine wpList_val (.bool true) rfl rfl ?_
  refine wpList_val (.bool true) rfl rfl ?_
  simp only [Act.put, List.setIfInBounds_toArray, List.set_cons_zero, List.set_cons_succ]
  refine wpList_val (.pointer (some ⟨w.heap.size, 3, none⟩)) (by kernel_rfl) (by kernel_rfl) ?_
  simp only [Act.put, List.setIfInBounds_toArray, List.set_cons_zero, List.set_cons_succ]
  refine wpList_val (.int .i64 dp) (by kernel_rfl) (val_load rfl (by kernel_rfl) l3) ?_
  simp only [Act.put, List.setIfInBounds_toArray, List.set_cons_zero, List.set_cons_succ]
  refine wpList_val (.pointer (some ⟨w.heap.size + 1, 3, none⟩)) (by kernel_rfl) (by kernel_rfl) ?_
  simp only [Act.put, List.setIfInBounds_toArray, List.set_cons_zero, List.set_cons_succ]
  refine wpList_val (.int .i64 dp) (by kernel_rfl) (val_load rfl (by kernel_rfl) r3) ?_
  simp only [Act.put, List.setIfInBounds_toArray, List.set_cons_zero, List.set_cons_succ]
  refine wpList_val (.bool true) (by kernel_rfl) (val_eql (m := dp) (n := dp) (k := .i64) rfl (by kernel_rfl) (by kernel_rfl) (by kernel_rfl) (by simp)) ?_
  refine wpList_val (.bool true) rfl rfl ?_
  refine wpList_val (.bool true) rfl rfl ?_
  simp only [Act.put, List.setIfInBounds_toArray, List.set_cons_zero, List.set_cons_succ]
  refine wpList_val (.pointer (some ⟨w.heap.size, 4, none⟩)) (by kernel_rfl) (by kernel_rfl) ?_
  simp only [Act.put, List.setIfInBounds_toArray, List.set_cons_zero, List.set_cons_succ]
  refine wpList_val (.int .u32 lf) (by kernel_rfl) (val_load rfl (by kernel_rfl) l4) ?_
  simp only [Act.put, List.setIfInBounds_toArray, List.set_cons_zero, List.set_cons_succ]
  refine wpList_val (.pointer (some ⟨w.heap.size + 1, 4, none⟩)) (by kernel_rfl) (by kernel_rfl) ?_
  simp only [Act.put, List.setIfInBounds_toArray, List.set_cons_zero, List.set_cons_succ]
  refine wpList_val (.int .u32 lf) (by kernel_rfl) (val_load rfl (by kernel_rfl) r4) ?_
  simp only [Act.put, List.setIfInBounds_toArray, List.set_cons_zero, List.set_cons_succ]
  refine wpList_val (.bool true) (by kernel_rfl) (val_eql (m := lf) (n := lf) (k := .u32) rfl (by kernel_rfl) (by kernel_rfl) (by kernel_rfl) (by simp)) ?_
  refine wpList_val (.bool true) rfl rfl ?_
  refine wpList_val (.bool true) rfl rfl ?_
  simp only [Act.put, List.setIfInBounds_toArray, List.set_cons_zero, List.set_cons_succ]
  refine wpList_val (.pointer (some ⟨w.heap.size, 5, none⟩)) (by kernel_rfl) (by kernel_rfl) ?_
  simp only [Act.put, List.setIfInBounds_toArray, List.set_cons_zero, List.set_cons_succ]
  refine wpList_val (.int .u64 off) (by kernel_rfl) (val_load rfl (by kernel_rfl) l5) ?_
  simp only [Act.put, List.setIfInBounds_toArray, List.set_cons_zero, List.set_cons_succ]
  refine wpList_val (.pointer (some ⟨w.heap.size + 1, 5, none⟩)) (by kernel_rfl) (by kernel_rfl) ?_
  simp only [Act.put, List.setIfInBounds_toArray, List.set_cons_zero, List.set_cons_succ]
  refine wpList_val (.int .u64 off) (by kernel_rfl) (val_load rfl (by kernel_rfl) r5) ?_
  simp only [Act.put, List.setIfInBounds_toArray, List.set_cons_zero, List.set_cons_succ]
  refine wpList_val (.bool true) (by kernel_rfl) (val_eql (m := off) (n := off) (k := .u64) rfl (by kernel_rfl) (by kernel_rfl) (by kernel_rfl) (by simp)) ?_
  refine wpList_val (.bool true) rfl rfl ?_
  refine wpList_val (.bool true) rfl rfl ?_
  simp only [Act.put, List.setIfInBounds_toArray, List.set_cons_zero, List.set_cons_succ]
  refine wpList_val (.pointer (some ⟨w.heap.size, 6, none⟩)) (by kernel_rfl) (by kernel_rfl) ?_
  simp only [Act.put, List.setIfInBounds_toArray, List.set_cons_zero, List.set_cons_succ]
  refine wpList_val (.int .u32 xof) (by kernel_rfl) (val_load rfl (by kernel_rfl) l6) ?_
  simp only [Act.put, List.setIfInBounds_toArray, List.set_cons_zero, List.set_cons_succ]
  refine wpList_val (.pointer (some ⟨w.heap.size + 1, 6, none⟩)) (by kernel_rfl) (by kernel_rfl) ?_
  simp only [Act.put, List.setIfInBounds_toArray, List.set_cons_zero, List.set_cons_succ]
  refine wpList_val (.int .u32 xof) (by kernel_rfl) (val_load rfl (by kernel_rfl) r6) ?_
  simp only [Act.put, List.setIfInBounds_toArray, List.set_cons_zero, List.set_cons_succ]
  refine wpList_val (.bool true) (by kernel_rfl) (val_eql (m := xof) (n := xof) (k := .u32) rfl (by kernel_rfl) (by kernel_rfl) (by kernel_rfl) (by simp)) ?_
  refine wpList_val (.bool true) rfl rfl ?_
  refine wpList_val (.bool true) rfl rfl ?_
  simp only [Act.put, List.setIfInBounds_toArray, List.set_cons_zero, List.set_cons_succ]
  refine wpList_val (.pointer (some ⟨w.heap.size, 7, none⟩)) (by kernel_rfl) (by kernel_rfl) ?_
  simp only [Act.put, List.setIfInBounds_toArray, List.set_cons_zero, List.set_cons_succ]
  refine wpList_val (.int .i64 nd) (by kernel_rfl) (val_load rfl (by kernel_rfl) l7) ?_
  simp only [Act.put, List.setIfInBounds_toArray, List.set_cons_zero, List.set_cons_succ]
  refine wpList_val (.pointer (some ⟨w.heap.size + 1, 7, none⟩)) (by kernel_rfl) (by kernel_rfl) ?_
  simp only [Act.put, List.setIfInBounds_toArray, List.set_cons_zero, List.set_cons_succ]
  refine wpList_val (.int .i64 nd) (by kernel_rfl) (val_load rfl (by kernel_rfl) r7) ?_
  simp only [Act.put, List.setIfInBounds_toArray, List.set_cons_zero, List.set_cons_succ]
  refine wpList_val (.bool true) (by kernel_rfl) (val_eql (m := nd) (n := nd) (k := .i64) rfl (by kernel_rfl) (by kernel_rfl) (by kernel_rfl) (by simp)) ?_
  refine wpList_val (.bool true) rfl rfl ?_
  refine wpList_val (.bool true) rfl rfl ?_
  simp only [Act.put, List.setIfInBounds_toArray, List.set_cons_zero, List.set_cons_succ]
  refine wpList_val (.pointer (some ⟨w.heap.size, 8, none⟩)) (by kernel_rfl) (by kernel_rfl) ?_
  simp only [Act.put, List.setIfInBounds_toArray, List.set_cons_zero, List.set_cons_succ]
  refine wpList_val (.int .i64 inn) (by kernel_rfl) (val_load rfl (by kernel_rfl) l8) ?_
  simp only [Act.put, List.setIfInBounds_toArray, List.set_cons_zero, List.set_cons_succ]
  refine wpList_val (.pointer (some ⟨w.heap.size + 1, 8, none⟩)) (by kernel_rfl) (by kernel_rfl) ?_
  simp only [Act.put, List.setIfInBounds_toArray, List.set_cons_zero, List.set_cons_succ]
  refine wpList_val (.int .i64 inn') (by kernel_rfl) (val_load rfl (by kernel_rfl) r8) ?_
  simp only [Act.put, List.setIfInBounds_toArray, List.set_cons_zero, List.set_cons_succ]
  refine wpList_val (.bool false) (by kernel_rfl) (val_eql (m := inn) (n := inn') (k := .i64) rfl (by kernel_rfl) (by kernel_rfl) (by kernel_rfl) ef) ?_
  refine wpList_val (.bool false) rfl rfl ?_
  refine wpList_val (.bool false) rfl rfl ?_
  simp only [Act.put, List.setIfInBounds_toArray, List.set_cons_zero, List.set_cons_succ]
  go_skip
  refine wpList_val (.bool false) rfl rfl ?_
  refine wpList_val (.bool false) rfl rfl ?_
  simp only [Act.put, List.setIfInBounds_toArray, List.set_cons_zero, List.set_cons_succ]
  go_skip
  refine wpList_val (.bool false) rfl rfl ?_
  refine wpList_val (.bool false) rfl rfl ?_
  simp only [Act.put, List.setIfInBounds_toArray, List.set_cons_zero, List.set_cons_succ]
  refine wpList_nil ?_
  simp only [Exit.then]
  refine wp_ret ?_
  refine bodyPost_ret (results_tmp Try.results41 _ _ _) rfl ?_
  exact ⟨rfl, HB.out⟩
end LW
end Go.Proofs.Ytomdplcmbcjkfaa
