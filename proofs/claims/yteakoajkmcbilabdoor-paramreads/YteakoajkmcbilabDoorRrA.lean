/-
  The document's small, blamed, set, word and field.
-/
import Derived.Test.YteakoajkmcbilabDoorRpC
import Derived.Test.YteakoajkmcbilabDoorRShow
namespace Go.Proofs.YteakoajkmcbilabDoor
open Go.RowKit Go.Shelf
set_option linter.unusedVariables false
set_option linter.unusedSimpArgs false
namespace LW
open Words Txt
theorem rsmall (u : Nat) (h : u < 18446744073709551616) (w : World) : Calls Tryd.prog 65 #[.int .u64 u] w fun e w' => e = .returned (.int .i64 (min (u : Int) 2147483647)) ∧ w = w' := by
  by_cases h1 : 2147483647 < (u : Int)
  · go_enter Tryd.func65, Tryd.ntmps65
    go_wp2
    go_ret
    exact ⟨TW.ret_int (by omega), rfl⟩
  · have e1 : IntKind.i64.wrap (u : Int) = u := by rw [IntKind.wrap_i64]; omega
    go_enter Tryd.func65, Tryd.ntmps65
    go_wp2
    go_ret
    exact ⟨TW.ret_int (by omega), rfl⟩
/-- Which field an error blames, as the document has it. -/
def rbl (E : Int) : Int := if E = 20 then 1 else if E = 8 then 2 else if E = 21 then 3 else if E = 22 then 4 else if E = 23 then 6 else if E = 24 then 7 else if E = 25 then 8 else if E = 26 then 9 else if E = 27 then 10 else 11
theorem rblamed (E : Int) (w : World) : Calls Tryd.prog 38 #[.int .i64 E] w fun e w' => e = .returned (.int .i64 (rbl E)) ∧ w = w' := by
  unfold rbl
  repeat' split
  all_goals
    first
    | (rename_i h; subst h; go_enter Tryd.func38, Tryd.ntmps38; go_wp2; go_ret; exact ⟨rfl, rfl⟩)
    | (go_enter Tryd.func38, Tryd.ntmps38
       have e1 : (E == 20) = false := by simp; assumption
       have e2 : (E == 8) = false := by simp; assumption
       have e3 : (E == 21) = false := by simp; assumption
       have e4 : (E == 22) = false := by simp; assumption
       have e5 : (E == 23) = false := by simp; assumption
       have e6 : (E == 24) = false := by simp; assumption
       have e7 : (E == 25) = false := by simp; assumption
       have e8 : (E == 26) = false := by simp; assumption
       have e9 : (E == 27) = false := by simp; assumption
       go_wp2; go_ret; exact ⟨rfl, rfl⟩)
end LW
end Go.Proofs.YteakoajkmcbilabDoor
namespace Go.Proofs.YteakoajkmcbilabDoor
open Go.RowKit Go.Shelf
set_option linter.unusedVariables false
set_option linter.unusedSimpArgs false
namespace LW
open Words Txt
set_option maxRecDepth 100000 in
set_option maxHeartbeats 2000000 in
theorem rset1 (d k f dp lf off xof nd inn : Int) (a1 a2 : Option Addr) (n1 c1 n2 c2 : Nat) (u : Nat) (h : u < 18446744073709551616) (w : World) :
    Calls Tryd.prog 37 #[.agg #[.int .i64 d, .int .i64 k, .int .i64 f, .int .i64 dp, .int .u32 lf, .int .u64 off, .int .u32 xof, .int .i64 nd, .int .i64 inn, .slice a1 n1 c1, .slice a2 n2 c2], .int .i64 1, .int .u64 u] w fun e w' => e = .returned (.agg #[.int .i64 (min (u : Int) 2147483647), .int .i64 k, .int .i64 f, .int .i64 dp, .int .u32 lf, .int .u64 off, .int .u32 xof, .int .i64 nd, .int .i64 inn, .slice a1 n1 c1, .slice a2 n2 c2]) ∧ Below w.heap.size w w' := by
  have hb := ((Below.refl w.heap.size w).alloc (Nat.le_refl _) (.cells #[.int .i64 d, .int .i64 k, .int .i64 f, .int .i64 dp, .int .u32 lf, .int .u64 off, .int .u32 xof, .int .i64 nd, .int .i64 inn, .slice a1 n1 c1, .slice a2 n2 c2] 26)).alloc (by simp) (.cells #[.int .i64 0, .int .i64 0, .int .i64 0, .int .i64 0, .int .u32 0, .int .u64 0, .int .u32 0, .int .i64 0, .int .i64 0, .slice none 0 0, .slice none 0 0] 26)
  have q0 := blk_alloc (o' := (.cells #[.int .i64 0, .int .i64 0, .int .i64 0, .int .i64 0, .int .u32 0, .int .u64 0, .int .u32 0, .int .i64 0, .int .i64 0, .slice none 0 0, .slice none 0 0] 26)) (heap_alloc_new w (.cells #[.int .i64 d, .int .i64 k, .int .i64 f, .int .i64 dp, .int .u32 lf, .int .u64 off, .int .u32 xof, .int .i64 nd, .int .i64 inn, .slice a1 n1 c1, .slice a2 n2 c2] 26))
  have q1 := heap_alloc_new (w.alloc (.cells #[.int .i64 d, .int .i64 k, .int .i64 f, .int .i64 dp, .int .u32 lf, .int .u64 off, .int .u32 xof, .int .i64 nd, .int .i64 inn, .slice a1 n1 c1, .slice a2 n2 c2] 26)) (.cells #[.int .i64 0, .int .i64 0, .int .i64 0, .int .i64 0, .int .u32 0, .int .u64 0, .int .u32 0, .int .i64 0, .int .i64 0, .slice none 0 0, .slice none 0 0] 26)
  rw [show (w.alloc (.cells #[.int .i64 d, .int .i64 k, .int .i64 f, .int .i64 dp, .int .u32 lf, .int .u64 off, .int .u32 xof, .int .i64 nd, .int .i64 inn, .slice a1 n1 c1, .slice a2 n2 c2] 26)).heap.size = w.heap.size + 1 by simp] at q1
  have HS := TW.hide (rsmall u h)
  have e1 : IntKind.u32.wrap (u : Int) = (u : Int) % 4294967296 := by rw [IntKind.wrap_u32]
  clear h
  go_enter Tryd.func37, Tryd.ntmps37
  refine wp_seq_k fun KK hK => ?_
  have HK := TW.hide hK
  clear hK
  go_wp2
  refine HK.out _ _ ?_
  clear HK KK
  generalize (w.alloc (.cells #[.int .i64 d, .int .i64 k, .int .i64 f, .int .i64 dp, .int .u32 lf, .int .u64 off, .int .u32 xof, .int .i64 nd, .int .i64 inn, .slice a1 n1 c1, .slice a2 n2 c2] 26)).alloc (.cells #[.int .i64 0, .int .i64 0, .int .i64 0, .int .i64 0, .int .u32 0, .int .u64 0, .int .u32 0, .int .i64 0, .int .i64 0, .slice none 0 0, .slice none 0 0] 26) = W at *
  generalize hB : w.heap.size = B at *
  have c0 := blk_cell (i := 0) q0 rfl
  have f0 : W.frozen? ⟨B, 0, none⟩ = false := by simp [World.frozen?, q0]
  have r0 : (W.setCell ⟨B, 0, none⟩ (.int .i64 (min (u : Int) 2147483647))).heap[B]? = some (.cells #[.int .i64 (min (u : Int) 2147483647), .int .i64 k, .int .i64 f, .int .i64 dp, .int .u32 lf, .int .u64 off, .int .u32 xof, .int .i64 nd, .int .i64 inn, .slice a1 n1 c1, .slice a2 n2 c2] 26 (0, 0)) := blk_set (i := 0) (u := (.int .i64 (min (u : Int) 2147483647))) q0
  have r1 := blk_other (p := B) (o := 0) (u := (.int .i64 (min (u : Int) 2147483647))) q1 (by omega)
  have BB : Hid (Below B w (W.setCell ⟨B, 0, none⟩ (.int .i64 (min (u : Int) 2147483647)))) := hb.setCell (Nat.le_refl _) _
  clear q0 q1 hb
  refine wp_seq_k fun KK hK => ?_
  have HK := TW.hide hK
  clear hK
  go_wp2_with fail
  refine (HS.out _).mono ?_
  rintro e w1 ⟨rfl, rfl⟩
  go_wp2_with fail
  refine HK.out _ _ ?_
  clear HK KK c0 f0 e1 HS
  generalize W.setCell ⟨B, 0, none⟩ (.int .i64 (min (u : Int) 2147483647)) = X at *
  have s1 := setRow_heap _ _ _ #[.int .i64 (min (u : Int) 2147483647), .int .i64 k, .int .i64 f, .int .i64 dp, .int .u32 lf, .int .u64 off, .int .u32 xof, .int .i64 nd, .int .i64 inn, .slice a1 n1 c1, .slice a2 n2 c2] _ _ r1
  have BC : Hid (Below B w (X.setRow (B + 1) #[.int .i64 (min (u : Int) 2147483647), .int .i64 k, .int .i64 f, .int .i64 dp, .int .u32 lf, .int .u64 off, .int .u32 xof, .int .i64 nd, .int .i64 inn, .slice a1 n1 c1, .slice a2 n2 c2])) := below_setRow BB.out (by omega)
  go_wp2_with (first | (refine wpList_val (.agg #[.int .i64 (min (u : Int) 2147483647), .int .i64 k, .int .i64 f, .int .i64 dp, .int .u32 lf, .int .u64 off, .int .u32 xof, .int .i64 nd, .int .i64 inn, .slice a1 n1 c1, .slice a2 n2 c2]) (by rfl) (exec_load_row' 26 _ (by rfl) (B) (by rfl) 26 #[.int .i64 (min (u : Int) 2147483647), .int .i64 k, .int .i64 f, .int .i64 dp, .int .u32 lf, .int .u64 off, .int .u32 xof, .int .i64 nd, .int .i64 inn, .slice a1 n1 c1, .slice a2 n2 c2] (0, 0) _ r0 Tryd.underlying26 rfl (by kernel_rfl)) ?_; simp only [Act.put, List.setIfInBounds_toArray, List.set_cons_zero, List.set_cons_succ, List.getElem_toArray, List.getElem_cons_zero, List.getElem_cons_succ]) | (refine wpList_store_row (by rfl) 26 _ _ (by rfl) (B + 1) #[.int .i64 (min (u : Int) 2147483647), .int .i64 k, .int .i64 f, .int .i64 dp, .int .u32 lf, .int .u64 off, .int .u32 xof, .int .i64 nd, .int .i64 inn, .slice a1 n1 c1, .slice a2 n2 c2] (by rfl) (by rfl) 26 _ r1 (by kernel_rfl) (by rfl) (by kernel_rfl) ?_; generalize X.setRow (B + 1) #[.int .i64 (min (u : Int) 2147483647), .int .i64 k, .int .i64 f, .int .i64 dp, .int .u32 lf, .int .u64 off, .int .u32 xof, .int .i64 nd, .int .i64 inn, .slice a1 n1 c1, .slice a2 n2 c2] = Y at *; simp only [Act.put, List.setIfInBounds_toArray, List.set_cons_zero, List.set_cons_succ, List.getElem_toArray, List.getElem_cons_zero, List.getElem_cons_succ]))
  refine bodyPost_ret (v := .agg #[.int .i64 (min (u : Int) 2147483647), .int .i64 k, .int .i64 f, .int .i64 dp, .int .u32 lf, .int .u64 off, .int .u32 xof, .int .i64 nd, .int .i64 inn, .slice a1 n1 c1, .slice a2 n2 c2]) ?_ rfl ?_
  · exact results_cell_row (P := Tryd.prog) Tryd.results37 _ _ (B + 1) 26 #[.int .i64 (min (u : Int) 2147483647), .int .i64 k, .int .i64 f, .int .i64 dp, .int .u32 lf, .int .u64 off, .int .u32 xof, .int .i64 nd, .int .i64 inn, .slice a1 n1 c1, .slice a2 n2 c2] (0, 0) _ rfl s1 Tryd.underlying26 rfl (by kernel_rfl)
  · exact ⟨rfl, BC.out⟩
set_option maxRecDepth 100000 in
set_option maxHeartbeats 2000000 in
theorem rset2 (d k f dp lf off xof nd inn : Int) (a1 a2 : Option Addr) (n1 c1 n2 c2 : Nat) (u : Nat) (h : u < 18446744073709551616) (w : World) :
    Calls Tryd.prog 37 #[.agg #[.int .i64 d, .int .i64 k, .int .i64 f, .int .i64 dp, .int .u32 lf, .int .u64 off, .int .u32 xof, .int .i64 nd, .int .i64 inn, .slice a1 n1 c1, .slice a2 n2 c2], .int .i64 2, .int .u64 u] w fun e w' => e = .returned (.agg #[.int .i64 d, .int .i64 (min (u : Int) 2147483647), .int .i64 f, .int .i64 dp, .int .u32 lf, .int .u64 off, .int .u32 xof, .int .i64 nd, .int .i64 inn, .slice a1 n1 c1, .slice a2 n2 c2]) ∧ Below w.heap.size w w' := by
  have hb := ((Below.refl w.heap.size w).alloc (Nat.le_refl _) (.cells #[.int .i64 d, .int .i64 k, .int .i64 f, .int .i64 dp, .int .u32 lf, .int .u64 off, .int .u32 xof, .int .i64 nd, .int .i64 inn, .slice a1 n1 c1, .slice a2 n2 c2] 26)).alloc (by simp) (.cells #[.int .i64 0, .int .i64 0, .int .i64 0, .int .i64 0, .int .u32 0, .int .u64 0, .int .u32 0, .int .i64 0, .int .i64 0, .slice none 0 0, .slice none 0 0] 26)
  have q0 := blk_alloc (o' := (.cells #[.int .i64 0, .int .i64 0, .int .i64 0, .int .i64 0, .int .u32 0, .int .u64 0, .int .u32 0, .int .i64 0, .int .i64 0, .slice none 0 0, .slice none 0 0] 26)) (heap_alloc_new w (.cells #[.int .i64 d, .int .i64 k, .int .i64 f, .int .i64 dp, .int .u32 lf, .int .u64 off, .int .u32 xof, .int .i64 nd, .int .i64 inn, .slice a1 n1 c1, .slice a2 n2 c2] 26))
  have q1 := heap_alloc_new (w.alloc (.cells #[.int .i64 d, .int .i64 k, .int .i64 f, .int .i64 dp, .int .u32 lf, .int .u64 off, .int .u32 xof, .int .i64 nd, .int .i64 inn, .slice a1 n1 c1, .slice a2 n2 c2] 26)) (.cells #[.int .i64 0, .int .i64 0, .int .i64 0, .int .i64 0, .int .u32 0, .int .u64 0, .int .u32 0, .int .i64 0, .int .i64 0, .slice none 0 0, .slice none 0 0] 26)
  rw [show (w.alloc (.cells #[.int .i64 d, .int .i64 k, .int .i64 f, .int .i64 dp, .int .u32 lf, .int .u64 off, .int .u32 xof, .int .i64 nd, .int .i64 inn, .slice a1 n1 c1, .slice a2 n2 c2] 26)).heap.size = w.heap.size + 1 by simp] at q1
  have HS := TW.hide (rsmall u h)
  have e1 : IntKind.u32.wrap (u : Int) = (u : Int) % 4294967296 := by rw [IntKind.wrap_u32]
  clear h
  go_enter Tryd.func37, Tryd.ntmps37
  refine wp_seq_k fun KK hK => ?_
  have HK := TW.hide hK
  clear hK
  go_wp2
  refine HK.out _ _ ?_
  clear HK KK
  generalize (w.alloc (.cells #[.int .i64 d, .int .i64 k, .int .i64 f, .int .i64 dp, .int .u32 lf, .int .u64 off, .int .u32 xof, .int .i64 nd, .int .i64 inn, .slice a1 n1 c1, .slice a2 n2 c2] 26)).alloc (.cells #[.int .i64 0, .int .i64 0, .int .i64 0, .int .i64 0, .int .u32 0, .int .u64 0, .int .u32 0, .int .i64 0, .int .i64 0, .slice none 0 0, .slice none 0 0] 26) = W at *
  generalize hB : w.heap.size = B at *
  have c0 := blk_cell (i := 1) q0 rfl
  have f0 : W.frozen? ⟨B, 1, none⟩ = false := by simp [World.frozen?, q0]
  have r0 : (W.setCell ⟨B, 1, none⟩ (.int .i64 (min (u : Int) 2147483647))).heap[B]? = some (.cells #[.int .i64 d, .int .i64 (min (u : Int) 2147483647), .int .i64 f, .int .i64 dp, .int .u32 lf, .int .u64 off, .int .u32 xof, .int .i64 nd, .int .i64 inn, .slice a1 n1 c1, .slice a2 n2 c2] 26 (0, 0)) := blk_set (i := 1) (u := (.int .i64 (min (u : Int) 2147483647))) q0
  have r1 := blk_other (p := B) (o := 1) (u := (.int .i64 (min (u : Int) 2147483647))) q1 (by omega)
  have BB : Hid (Below B w (W.setCell ⟨B, 1, none⟩ (.int .i64 (min (u : Int) 2147483647)))) := hb.setCell (Nat.le_refl _) _
  clear q0 q1 hb
  refine wp_seq_k fun KK hK => ?_
  have HK := TW.hide hK
  clear hK
  go_wp2_with fail
  refine (HS.out _).mono ?_
  rintro e w1 ⟨rfl, rfl⟩
  go_wp2_with fail
  refine HK.out _ _ ?_
  clear HK KK c0 f0 e1 HS
  generalize W.setCell ⟨B, 1, none⟩ (.int .i64 (min (u : Int) 2147483647)) = X at *
  have s1 := setRow_heap _ _ _ #[.int .i64 d, .int .i64 (min (u : Int) 2147483647), .int .i64 f, .int .i64 dp, .int .u32 lf, .int .u64 off, .int .u32 xof, .int .i64 nd, .int .i64 inn, .slice a1 n1 c1, .slice a2 n2 c2] _ _ r1
  have BC : Hid (Below B w (X.setRow (B + 1) #[.int .i64 d, .int .i64 (min (u : Int) 2147483647), .int .i64 f, .int .i64 dp, .int .u32 lf, .int .u64 off, .int .u32 xof, .int .i64 nd, .int .i64 inn, .slice a1 n1 c1, .slice a2 n2 c2])) := below_setRow BB.out (by omega)
  go_wp2_with (first | (refine wpList_val (.agg #[.int .i64 d, .int .i64 (min (u : Int) 2147483647), .int .i64 f, .int .i64 dp, .int .u32 lf, .int .u64 off, .int .u32 xof, .int .i64 nd, .int .i64 inn, .slice a1 n1 c1, .slice a2 n2 c2]) (by rfl) (exec_load_row' 26 _ (by rfl) (B) (by rfl) 26 #[.int .i64 d, .int .i64 (min (u : Int) 2147483647), .int .i64 f, .int .i64 dp, .int .u32 lf, .int .u64 off, .int .u32 xof, .int .i64 nd, .int .i64 inn, .slice a1 n1 c1, .slice a2 n2 c2] (0, 0) _ r0 Tryd.underlying26 rfl (by kernel_rfl)) ?_; simp only [Act.put, List.setIfInBounds_toArray, List.set_cons_zero, List.set_cons_succ, List.getElem_toArray, List.getElem_cons_zero, List.getElem_cons_succ]) | (refine wpList_store_row (by rfl) 26 _ _ (by rfl) (B + 1) #[.int .i64 d, .int .i64 (min (u : Int) 2147483647), .int .i64 f, .int .i64 dp, .int .u32 lf, .int .u64 off, .int .u32 xof, .int .i64 nd, .int .i64 inn, .slice a1 n1 c1, .slice a2 n2 c2] (by rfl) (by rfl) 26 _ r1 (by kernel_rfl) (by rfl) (by kernel_rfl) ?_; generalize X.setRow (B + 1) #[.int .i64 d, .int .i64 (min (u : Int) 2147483647), .int .i64 f, .int .i64 dp, .int .u32 lf, .int .u64 off, .int .u32 xof, .int .i64 nd, .int .i64 inn, .slice a1 n1 c1, .slice a2 n2 c2] = Y at *; simp only [Act.put, List.setIfInBounds_toArray, List.set_cons_zero, List.set_cons_succ, List.getElem_toArray, List.getElem_cons_zero, List.getElem_cons_succ]))
  refine bodyPost_ret (v := .agg #[.int .i64 d, .int .i64 (min (u : Int) 2147483647), .int .i64 f, .int .i64 dp, .int .u32 lf, .int .u64 off, .int .u32 xof, .int .i64 nd, .int .i64 inn, .slice a1 n1 c1, .slice a2 n2 c2]) ?_ rfl ?_
  · exact results_cell_row (P := Tryd.prog) Tryd.results37 _ _ (B + 1) 26 #[.int .i64 d, .int .i64 (min (u : Int) 2147483647), .int .i64 f, .int .i64 dp, .int .u32 lf, .int .u64 off, .int .u32 xof, .int .i64 nd, .int .i64 inn, .slice a1 n1 c1, .slice a2 n2 c2] (0, 0) _ rfl s1 Tryd.underlying26 rfl (by kernel_rfl)
  · exact ⟨rfl, BC.out⟩
set_option maxRecDepth 100000 in
set_option maxHeartbeats 2000000 in
theorem rset3 (d k f dp lf off xof nd inn : Int) (a1 a2 : Option Addr) (n1 c1 n2 c2 : Nat) (u : Nat) (h : u < 18446744073709551616) (w : World) :
    Calls Tryd.prog 37 #[.agg #[.int .i64 d, .int .i64 k, .int .i64 f, .int .i64 dp, .int .u32 lf, .int .u64 off, .int .u32 xof, .int .i64 nd, .int .i64 inn, .slice a1 n1 c1, .slice a2 n2 c2], .int .i64 3, .int .u64 u] w fun e w' => e = .returned (.agg #[.int .i64 d, .int .i64 k, .int .i64 (min (u : Int) 2147483647), .int .i64 dp, .int .u32 lf, .int .u64 off, .int .u32 xof, .int .i64 nd, .int .i64 inn, .slice a1 n1 c1, .slice a2 n2 c2]) ∧ Below w.heap.size w w' := by
  have hb := ((Below.refl w.heap.size w).alloc (Nat.le_refl _) (.cells #[.int .i64 d, .int .i64 k, .int .i64 f, .int .i64 dp, .int .u32 lf, .int .u64 off, .int .u32 xof, .int .i64 nd, .int .i64 inn, .slice a1 n1 c1, .slice a2 n2 c2] 26)).alloc (by simp) (.cells #[.int .i64 0, .int .i64 0, .int .i64 0, .int .i64 0, .int .u32 0, .int .u64 0, .int .u32 0, .int .i64 0, .int .i64 0, .slice none 0 0, .slice none 0 0] 26)
  have q0 := blk_alloc (o' := (.cells #[.int .i64 0, .int .i64 0, .int .i64 0, .int .i64 0, .int .u32 0, .int .u64 0, .int .u32 0, .int .i64 0, .int .i64 0, .slice none 0 0, .slice none 0 0] 26)) (heap_alloc_new w (.cells #[.int .i64 d, .int .i64 k, .int .i64 f, .int .i64 dp, .int .u32 lf, .int .u64 off, .int .u32 xof, .int .i64 nd, .int .i64 inn, .slice a1 n1 c1, .slice a2 n2 c2] 26))
  have q1 := heap_alloc_new (w.alloc (.cells #[.int .i64 d, .int .i64 k, .int .i64 f, .int .i64 dp, .int .u32 lf, .int .u64 off, .int .u32 xof, .int .i64 nd, .int .i64 inn, .slice a1 n1 c1, .slice a2 n2 c2] 26)) (.cells #[.int .i64 0, .int .i64 0, .int .i64 0, .int .i64 0, .int .u32 0, .int .u64 0, .int .u32 0, .int .i64 0, .int .i64 0, .slice none 0 0, .slice none 0 0] 26)
  rw [show (w.alloc (.cells #[.int .i64 d, .int .i64 k, .int .i64 f, .int .i64 dp, .int .u32 lf, .int .u64 off, .int .u32 xof, .int .i64 nd, .int .i64 inn, .slice a1 n1 c1, .slice a2 n2 c2] 26)).heap.size = w.heap.size + 1 by simp] at q1
  have HS := TW.hide (rsmall u h)
  have e1 : IntKind.u32.wrap (u : Int) = (u : Int) % 4294967296 := by rw [IntKind.wrap_u32]
  clear h
  go_enter Tryd.func37, Tryd.ntmps37
  refine wp_seq_k fun KK hK => ?_
  have HK := TW.hide hK
  clear hK
  go_wp2
  refine HK.out _ _ ?_
  clear HK KK
  generalize (w.alloc (.cells #[.int .i64 d, .int .i64 k, .int .i64 f, .int .i64 dp, .int .u32 lf, .int .u64 off, .int .u32 xof, .int .i64 nd, .int .i64 inn, .slice a1 n1 c1, .slice a2 n2 c2] 26)).alloc (.cells #[.int .i64 0, .int .i64 0, .int .i64 0, .int .i64 0, .int .u32 0, .int .u64 0, .int .u32 0, .int .i64 0, .int .i64 0, .slice none 0 0, .slice none 0 0] 26) = W at *
  generalize hB : w.heap.size = B at *
  have c0 := blk_cell (i := 2) q0 rfl
  have f0 : W.frozen? ⟨B, 2, none⟩ = false := by simp [World.frozen?, q0]
  have r0 : (W.setCell ⟨B, 2, none⟩ (.int .i64 (min (u : Int) 2147483647))).heap[B]? = some (.cells #[.int .i64 d, .int .i64 k, .int .i64 (min (u : Int) 2147483647), .int .i64 dp, .int .u32 lf, .int .u64 off, .int .u32 xof, .int .i64 nd, .int .i64 inn, .slice a1 n1 c1, .slice a2 n2 c2] 26 (0, 0)) := blk_set (i := 2) (u := (.int .i64 (min (u : Int) 2147483647))) q0
  have r1 := blk_other (p := B) (o := 2) (u := (.int .i64 (min (u : Int) 2147483647))) q1 (by omega)
  have BB : Hid (Below B w (W.setCell ⟨B, 2, none⟩ (.int .i64 (min (u : Int) 2147483647)))) := hb.setCell (Nat.le_refl _) _
  clear q0 q1 hb
  refine wp_seq_k fun KK hK => ?_
  have HK := TW.hide hK
  clear hK
  go_wp2_with fail
  refine (HS.out _).mono ?_
  rintro e w1 ⟨rfl, rfl⟩
  go_wp2_with fail
  refine HK.out _ _ ?_
  clear HK KK c0 f0 e1 HS
  generalize W.setCell ⟨B, 2, none⟩ (.int .i64 (min (u : Int) 2147483647)) = X at *
  have s1 := setRow_heap _ _ _ #[.int .i64 d, .int .i64 k, .int .i64 (min (u : Int) 2147483647), .int .i64 dp, .int .u32 lf, .int .u64 off, .int .u32 xof, .int .i64 nd, .int .i64 inn, .slice a1 n1 c1, .slice a2 n2 c2] _ _ r1
  have BC : Hid (Below B w (X.setRow (B + 1) #[.int .i64 d, .int .i64 k, .int .i64 (min (u : Int) 2147483647), .int .i64 dp, .int .u32 lf, .int .u64 off, .int .u32 xof, .int .i64 nd, .int .i64 inn, .slice a1 n1 c1, .slice a2 n2 c2])) := below_setRow BB.out (by omega)
  go_wp2_with (first | (refine wpList_val (.agg #[.int .i64 d, .int .i64 k, .int .i64 (min (u : Int) 2147483647), .int .i64 dp, .int .u32 lf, .int .u64 off, .int .u32 xof, .int .i64 nd, .int .i64 inn, .slice a1 n1 c1, .slice a2 n2 c2]) (by rfl) (exec_load_row' 26 _ (by rfl) (B) (by rfl) 26 #[.int .i64 d, .int .i64 k, .int .i64 (min (u : Int) 2147483647), .int .i64 dp, .int .u32 lf, .int .u64 off, .int .u32 xof, .int .i64 nd, .int .i64 inn, .slice a1 n1 c1, .slice a2 n2 c2] (0, 0) _ r0 Tryd.underlying26 rfl (by kernel_rfl)) ?_; simp only [Act.put, List.setIfInBounds_toArray, List.set_cons_zero, List.set_cons_succ, List.getElem_toArray, List.getElem_cons_zero, List.getElem_cons_succ]) | (refine wpList_store_row (by rfl) 26 _ _ (by rfl) (B + 1) #[.int .i64 d, .int .i64 k, .int .i64 (min (u : Int) 2147483647), .int .i64 dp, .int .u32 lf, .int .u64 off, .int .u32 xof, .int .i64 nd, .int .i64 inn, .slice a1 n1 c1, .slice a2 n2 c2] (by rfl) (by rfl) 26 _ r1 (by kernel_rfl) (by rfl) (by kernel_rfl) ?_; generalize X.setRow (B + 1) #[.int .i64 d, .int .i64 k, .int .i64 (min (u : Int) 2147483647), .int .i64 dp, .int .u32 lf, .int .u64 off, .int .u32 xof, .int .i64 nd, .int .i64 inn, .slice a1 n1 c1, .slice a2 n2 c2] = Y at *; simp only [Act.put, List.setIfInBounds_toArray, List.set_cons_zero, List.set_cons_succ, List.getElem_toArray, List.getElem_cons_zero, List.getElem_cons_succ]))
  refine bodyPost_ret (v := .agg #[.int .i64 d, .int .i64 k, .int .i64 (min (u : Int) 2147483647), .int .i64 dp, .int .u32 lf, .int .u64 off, .int .u32 xof, .int .i64 nd, .int .i64 inn, .slice a1 n1 c1, .slice a2 n2 c2]) ?_ rfl ?_
  · exact results_cell_row (P := Tryd.prog) Tryd.results37 _ _ (B + 1) 26 #[.int .i64 d, .int .i64 k, .int .i64 (min (u : Int) 2147483647), .int .i64 dp, .int .u32 lf, .int .u64 off, .int .u32 xof, .int .i64 nd, .int .i64 inn, .slice a1 n1 c1, .slice a2 n2 c2] (0, 0) _ rfl s1 Tryd.underlying26 rfl (by kernel_rfl)
  · exact ⟨rfl, BC.out⟩
set_option maxRecDepth 100000 in
set_option maxHeartbeats 2000000 in
theorem rset4 (d k f dp lf off xof nd inn : Int) (a1 a2 : Option Addr) (n1 c1 n2 c2 : Nat) (u : Nat) (h : u < 18446744073709551616) (w : World) :
    Calls Tryd.prog 37 #[.agg #[.int .i64 d, .int .i64 k, .int .i64 f, .int .i64 dp, .int .u32 lf, .int .u64 off, .int .u32 xof, .int .i64 nd, .int .i64 inn, .slice a1 n1 c1, .slice a2 n2 c2], .int .i64 4, .int .u64 u] w fun e w' => e = .returned (.agg #[.int .i64 d, .int .i64 k, .int .i64 f, .int .i64 (min (u : Int) 2147483647), .int .u32 lf, .int .u64 off, .int .u32 xof, .int .i64 nd, .int .i64 inn, .slice a1 n1 c1, .slice a2 n2 c2]) ∧ Below w.heap.size w w' := by
  have hb := ((Below.refl w.heap.size w).alloc (Nat.le_refl _) (.cells #[.int .i64 d, .int .i64 k, .int .i64 f, .int .i64 dp, .int .u32 lf, .int .u64 off, .int .u32 xof, .int .i64 nd, .int .i64 inn, .slice a1 n1 c1, .slice a2 n2 c2] 26)).alloc (by simp) (.cells #[.int .i64 0, .int .i64 0, .int .i64 0, .int .i64 0, .int .u32 0, .int .u64 0, .int .u32 0, .int .i64 0, .int .i64 0, .slice none 0 0, .slice none 0 0] 26)
  have q0 := blk_alloc (o' := (.cells #[.int .i64 0, .int .i64 0, .int .i64 0, .int .i64 0, .int .u32 0, .int .u64 0, .int .u32 0, .int .i64 0, .int .i64 0, .slice none 0 0, .slice none 0 0] 26)) (heap_alloc_new w (.cells #[.int .i64 d, .int .i64 k, .int .i64 f, .int .i64 dp, .int .u32 lf, .int .u64 off, .int .u32 xof, .int .i64 nd, .int .i64 inn, .slice a1 n1 c1, .slice a2 n2 c2] 26))
  have q1 := heap_alloc_new (w.alloc (.cells #[.int .i64 d, .int .i64 k, .int .i64 f, .int .i64 dp, .int .u32 lf, .int .u64 off, .int .u32 xof, .int .i64 nd, .int .i64 inn, .slice a1 n1 c1, .slice a2 n2 c2] 26)) (.cells #[.int .i64 0, .int .i64 0, .int .i64 0, .int .i64 0, .int .u32 0, .int .u64 0, .int .u32 0, .int .i64 0, .int .i64 0, .slice none 0 0, .slice none 0 0] 26)
  rw [show (w.alloc (.cells #[.int .i64 d, .int .i64 k, .int .i64 f, .int .i64 dp, .int .u32 lf, .int .u64 off, .int .u32 xof, .int .i64 nd, .int .i64 inn, .slice a1 n1 c1, .slice a2 n2 c2] 26)).heap.size = w.heap.size + 1 by simp] at q1
  have HS := TW.hide (rsmall u h)
  have e1 : IntKind.u32.wrap (u : Int) = (u : Int) % 4294967296 := by rw [IntKind.wrap_u32]
  clear h
  go_enter Tryd.func37, Tryd.ntmps37
  refine wp_seq_k fun KK hK => ?_
  have HK := TW.hide hK
  clear hK
  go_wp2
  refine HK.out _ _ ?_
  clear HK KK
  generalize (w.alloc (.cells #[.int .i64 d, .int .i64 k, .int .i64 f, .int .i64 dp, .int .u32 lf, .int .u64 off, .int .u32 xof, .int .i64 nd, .int .i64 inn, .slice a1 n1 c1, .slice a2 n2 c2] 26)).alloc (.cells #[.int .i64 0, .int .i64 0, .int .i64 0, .int .i64 0, .int .u32 0, .int .u64 0, .int .u32 0, .int .i64 0, .int .i64 0, .slice none 0 0, .slice none 0 0] 26) = W at *
  generalize hB : w.heap.size = B at *
  have c0 := blk_cell (i := 3) q0 rfl
  have f0 : W.frozen? ⟨B, 3, none⟩ = false := by simp [World.frozen?, q0]
  have r0 : (W.setCell ⟨B, 3, none⟩ (.int .i64 (min (u : Int) 2147483647))).heap[B]? = some (.cells #[.int .i64 d, .int .i64 k, .int .i64 f, .int .i64 (min (u : Int) 2147483647), .int .u32 lf, .int .u64 off, .int .u32 xof, .int .i64 nd, .int .i64 inn, .slice a1 n1 c1, .slice a2 n2 c2] 26 (0, 0)) := blk_set (i := 3) (u := (.int .i64 (min (u : Int) 2147483647))) q0
  have r1 := blk_other (p := B) (o := 3) (u := (.int .i64 (min (u : Int) 2147483647))) q1 (by omega)
  have BB : Hid (Below B w (W.setCell ⟨B, 3, none⟩ (.int .i64 (min (u : Int) 2147483647)))) := hb.setCell (Nat.le_refl _) _
  clear q0 q1 hb
  refine wp_seq_k fun KK hK => ?_
  have HK := TW.hide hK
  clear hK
  go_wp2_with fail
  refine (HS.out _).mono ?_
  rintro e w1 ⟨rfl, rfl⟩
  go_wp2_with fail
  refine HK.out _ _ ?_
  clear HK KK c0 f0 e1 HS
  generalize W.setCell ⟨B, 3, none⟩ (.int .i64 (min (u : Int) 2147483647)) = X at *
  have s1 := setRow_heap _ _ _ #[.int .i64 d, .int .i64 k, .int .i64 f, .int .i64 (min (u : Int) 2147483647), .int .u32 lf, .int .u64 off, .int .u32 xof, .int .i64 nd, .int .i64 inn, .slice a1 n1 c1, .slice a2 n2 c2] _ _ r1
  have BC : Hid (Below B w (X.setRow (B + 1) #[.int .i64 d, .int .i64 k, .int .i64 f, .int .i64 (min (u : Int) 2147483647), .int .u32 lf, .int .u64 off, .int .u32 xof, .int .i64 nd, .int .i64 inn, .slice a1 n1 c1, .slice a2 n2 c2])) := below_setRow BB.out (by omega)
  go_wp2_with (first | (refine wpList_val (.agg #[.int .i64 d, .int .i64 k, .int .i64 f, .int .i64 (min (u : Int) 2147483647), .int .u32 lf, .int .u64 off, .int .u32 xof, .int .i64 nd, .int .i64 inn, .slice a1 n1 c1, .slice a2 n2 c2]) (by rfl) (exec_load_row' 26 _ (by rfl) (B) (by rfl) 26 #[.int .i64 d, .int .i64 k, .int .i64 f, .int .i64 (min (u : Int) 2147483647), .int .u32 lf, .int .u64 off, .int .u32 xof, .int .i64 nd, .int .i64 inn, .slice a1 n1 c1, .slice a2 n2 c2] (0, 0) _ r0 Tryd.underlying26 rfl (by kernel_rfl)) ?_; simp only [Act.put, List.setIfInBounds_toArray, List.set_cons_zero, List.set_cons_succ, List.getElem_toArray, List.getElem_cons_zero, List.getElem_cons_succ]) | (refine wpList_store_row (by rfl) 26 _ _ (by rfl) (B + 1) #[.int .i64 d, .int .i64 k, .int .i64 f, .int .i64 (min (u : Int) 2147483647), .int .u32 lf, .int .u64 off, .int .u32 xof, .int .i64 nd, .int .i64 inn, .slice a1 n1 c1, .slice a2 n2 c2] (by rfl) (by rfl) 26 _ r1 (by kernel_rfl) (by rfl) (by kernel_rfl) ?_; generalize X.setRow (B + 1) #[.int .i64 d, .int .i64 k, .int .i64 f, .int .i64 (min (u : Int) 2147483647), .int .u32 lf, .int .u64 off, .int .u32 xof, .int .i64 nd, .int .i64 inn, .slice a1 n1 c1, .slice a2 n2 c2] = Y at *; simp only [Act.put, List.setIfInBounds_toArray, List.set_cons_zero, List.set_cons_succ, List.getElem_toArray, List.getElem_cons_zero, List.getElem_cons_succ]))
  refine bodyPost_ret (v := .agg #[.int .i64 d, .int .i64 k, .int .i64 f, .int .i64 (min (u : Int) 2147483647), .int .u32 lf, .int .u64 off, .int .u32 xof, .int .i64 nd, .int .i64 inn, .slice a1 n1 c1, .slice a2 n2 c2]) ?_ rfl ?_
  · exact results_cell_row (P := Tryd.prog) Tryd.results37 _ _ (B + 1) 26 #[.int .i64 d, .int .i64 k, .int .i64 f, .int .i64 (min (u : Int) 2147483647), .int .u32 lf, .int .u64 off, .int .u32 xof, .int .i64 nd, .int .i64 inn, .slice a1 n1 c1, .slice a2 n2 c2] (0, 0) _ rfl s1 Tryd.underlying26 rfl (by kernel_rfl)
  · exact ⟨rfl, BC.out⟩
set_option maxRecDepth 100000 in
set_option maxHeartbeats 2000000 in
theorem rset5 (d k f dp lf off xof nd inn : Int) (a1 a2 : Option Addr) (n1 c1 n2 c2 : Nat) (u : Nat) (h : u < 18446744073709551616) (w : World) :
    Calls Tryd.prog 37 #[.agg #[.int .i64 d, .int .i64 k, .int .i64 f, .int .i64 dp, .int .u32 lf, .int .u64 off, .int .u32 xof, .int .i64 nd, .int .i64 inn, .slice a1 n1 c1, .slice a2 n2 c2], .int .i64 5, .int .u64 u] w fun e w' => e = .returned (.agg #[.int .i64 d, .int .i64 k, .int .i64 f, .int .i64 dp, .int .u32 ((u : Int) % 4294967296), .int .u64 off, .int .u32 xof, .int .i64 nd, .int .i64 inn, .slice a1 n1 c1, .slice a2 n2 c2]) ∧ Below w.heap.size w w' := by
  have hb := ((Below.refl w.heap.size w).alloc (Nat.le_refl _) (.cells #[.int .i64 d, .int .i64 k, .int .i64 f, .int .i64 dp, .int .u32 lf, .int .u64 off, .int .u32 xof, .int .i64 nd, .int .i64 inn, .slice a1 n1 c1, .slice a2 n2 c2] 26)).alloc (by simp) (.cells #[.int .i64 0, .int .i64 0, .int .i64 0, .int .i64 0, .int .u32 0, .int .u64 0, .int .u32 0, .int .i64 0, .int .i64 0, .slice none 0 0, .slice none 0 0] 26)
  have q0 := blk_alloc (o' := (.cells #[.int .i64 0, .int .i64 0, .int .i64 0, .int .i64 0, .int .u32 0, .int .u64 0, .int .u32 0, .int .i64 0, .int .i64 0, .slice none 0 0, .slice none 0 0] 26)) (heap_alloc_new w (.cells #[.int .i64 d, .int .i64 k, .int .i64 f, .int .i64 dp, .int .u32 lf, .int .u64 off, .int .u32 xof, .int .i64 nd, .int .i64 inn, .slice a1 n1 c1, .slice a2 n2 c2] 26))
  have q1 := heap_alloc_new (w.alloc (.cells #[.int .i64 d, .int .i64 k, .int .i64 f, .int .i64 dp, .int .u32 lf, .int .u64 off, .int .u32 xof, .int .i64 nd, .int .i64 inn, .slice a1 n1 c1, .slice a2 n2 c2] 26)) (.cells #[.int .i64 0, .int .i64 0, .int .i64 0, .int .i64 0, .int .u32 0, .int .u64 0, .int .u32 0, .int .i64 0, .int .i64 0, .slice none 0 0, .slice none 0 0] 26)
  rw [show (w.alloc (.cells #[.int .i64 d, .int .i64 k, .int .i64 f, .int .i64 dp, .int .u32 lf, .int .u64 off, .int .u32 xof, .int .i64 nd, .int .i64 inn, .slice a1 n1 c1, .slice a2 n2 c2] 26)).heap.size = w.heap.size + 1 by simp] at q1
  have HS := TW.hide (rsmall u h)
  have e1 : IntKind.u32.wrap (u : Int) = (u : Int) % 4294967296 := by rw [IntKind.wrap_u32]
  clear h
  go_enter Tryd.func37, Tryd.ntmps37
  refine wp_seq_k fun KK hK => ?_
  have HK := TW.hide hK
  clear hK
  go_wp2
  refine HK.out _ _ ?_
  clear HK KK
  generalize (w.alloc (.cells #[.int .i64 d, .int .i64 k, .int .i64 f, .int .i64 dp, .int .u32 lf, .int .u64 off, .int .u32 xof, .int .i64 nd, .int .i64 inn, .slice a1 n1 c1, .slice a2 n2 c2] 26)).alloc (.cells #[.int .i64 0, .int .i64 0, .int .i64 0, .int .i64 0, .int .u32 0, .int .u64 0, .int .u32 0, .int .i64 0, .int .i64 0, .slice none 0 0, .slice none 0 0] 26) = W at *
  generalize hB : w.heap.size = B at *
  have c0 := blk_cell (i := 4) q0 rfl
  have f0 : W.frozen? ⟨B, 4, none⟩ = false := by simp [World.frozen?, q0]
  have r0 : (W.setCell ⟨B, 4, none⟩ (.int .u32 ((u : Int) % 4294967296))).heap[B]? = some (.cells #[.int .i64 d, .int .i64 k, .int .i64 f, .int .i64 dp, .int .u32 ((u : Int) % 4294967296), .int .u64 off, .int .u32 xof, .int .i64 nd, .int .i64 inn, .slice a1 n1 c1, .slice a2 n2 c2] 26 (0, 0)) := blk_set (i := 4) (u := (.int .u32 ((u : Int) % 4294967296))) q0
  have r1 := blk_other (p := B) (o := 4) (u := (.int .u32 ((u : Int) % 4294967296))) q1 (by omega)
  have BB : Hid (Below B w (W.setCell ⟨B, 4, none⟩ (.int .u32 ((u : Int) % 4294967296)))) := hb.setCell (Nat.le_refl _) _
  clear q0 q1 hb
  refine wp_seq_k fun KK hK => ?_
  have HK := TW.hide hK
  clear hK
  go_wp2_with fail
  refine HK.out _ _ ?_
  clear HK KK c0 f0 e1 HS
  generalize W.setCell ⟨B, 4, none⟩ (.int .u32 ((u : Int) % 4294967296)) = X at *
  have s1 := setRow_heap _ _ _ #[.int .i64 d, .int .i64 k, .int .i64 f, .int .i64 dp, .int .u32 ((u : Int) % 4294967296), .int .u64 off, .int .u32 xof, .int .i64 nd, .int .i64 inn, .slice a1 n1 c1, .slice a2 n2 c2] _ _ r1
  have BC : Hid (Below B w (X.setRow (B + 1) #[.int .i64 d, .int .i64 k, .int .i64 f, .int .i64 dp, .int .u32 ((u : Int) % 4294967296), .int .u64 off, .int .u32 xof, .int .i64 nd, .int .i64 inn, .slice a1 n1 c1, .slice a2 n2 c2])) := below_setRow BB.out (by omega)
  go_wp2_with (first | (refine wpList_val (.agg #[.int .i64 d, .int .i64 k, .int .i64 f, .int .i64 dp, .int .u32 ((u : Int) % 4294967296), .int .u64 off, .int .u32 xof, .int .i64 nd, .int .i64 inn, .slice a1 n1 c1, .slice a2 n2 c2]) (by rfl) (exec_load_row' 26 _ (by rfl) (B) (by rfl) 26 #[.int .i64 d, .int .i64 k, .int .i64 f, .int .i64 dp, .int .u32 ((u : Int) % 4294967296), .int .u64 off, .int .u32 xof, .int .i64 nd, .int .i64 inn, .slice a1 n1 c1, .slice a2 n2 c2] (0, 0) _ r0 Tryd.underlying26 rfl (by kernel_rfl)) ?_; simp only [Act.put, List.setIfInBounds_toArray, List.set_cons_zero, List.set_cons_succ, List.getElem_toArray, List.getElem_cons_zero, List.getElem_cons_succ]) | (refine wpList_store_row (by rfl) 26 _ _ (by rfl) (B + 1) #[.int .i64 d, .int .i64 k, .int .i64 f, .int .i64 dp, .int .u32 ((u : Int) % 4294967296), .int .u64 off, .int .u32 xof, .int .i64 nd, .int .i64 inn, .slice a1 n1 c1, .slice a2 n2 c2] (by rfl) (by rfl) 26 _ r1 (by kernel_rfl) (by rfl) (by kernel_rfl) ?_; generalize X.setRow (B + 1) #[.int .i64 d, .int .i64 k, .int .i64 f, .int .i64 dp, .int .u32 ((u : Int) % 4294967296), .int .u64 off, .int .u32 xof, .int .i64 nd, .int .i64 inn, .slice a1 n1 c1, .slice a2 n2 c2] = Y at *; simp only [Act.put, List.setIfInBounds_toArray, List.set_cons_zero, List.set_cons_succ, List.getElem_toArray, List.getElem_cons_zero, List.getElem_cons_succ]))
  refine bodyPost_ret (v := .agg #[.int .i64 d, .int .i64 k, .int .i64 f, .int .i64 dp, .int .u32 ((u : Int) % 4294967296), .int .u64 off, .int .u32 xof, .int .i64 nd, .int .i64 inn, .slice a1 n1 c1, .slice a2 n2 c2]) ?_ rfl ?_
  · exact results_cell_row (P := Tryd.prog) Tryd.results37 _ _ (B + 1) 26 #[.int .i64 d, .int .i64 k, .int .i64 f, .int .i64 dp, .int .u32 ((u : Int) % 4294967296), .int .u64 off, .int .u32 xof, .int .i64 nd, .int .i64 inn, .slice a1 n1 c1, .slice a2 n2 c2] (0, 0) _ rfl s1 Tryd.underlying26 rfl (by kernel_rfl)
  · exact ⟨rfl, BC.out⟩
set_option maxRecDepth 100000 in
set_option maxHeartbeats 2000000 in
theorem rset6 (d k f dp lf off xof nd inn : Int) (a1 a2 : Option Addr) (n1 c1 n2 c2 : Nat) (u : Nat) (h : u < 18446744073709551616) (w : World) :
    Calls Tryd.prog 37 #[.agg #[.int .i64 d, .int .i64 k, .int .i64 f, .int .i64 dp, .int .u32 lf, .int .u64 off, .int .u32 xof, .int .i64 nd, .int .i64 inn, .slice a1 n1 c1, .slice a2 n2 c2], .int .i64 6, .int .u64 u] w fun e w' => e = .returned (.agg #[.int .i64 d, .int .i64 k, .int .i64 f, .int .i64 dp, .int .u32 lf, .int .u64 (u : Int), .int .u32 xof, .int .i64 nd, .int .i64 inn, .slice a1 n1 c1, .slice a2 n2 c2]) ∧ Below w.heap.size w w' := by
  have hb := ((Below.refl w.heap.size w).alloc (Nat.le_refl _) (.cells #[.int .i64 d, .int .i64 k, .int .i64 f, .int .i64 dp, .int .u32 lf, .int .u64 off, .int .u32 xof, .int .i64 nd, .int .i64 inn, .slice a1 n1 c1, .slice a2 n2 c2] 26)).alloc (by simp) (.cells #[.int .i64 0, .int .i64 0, .int .i64 0, .int .i64 0, .int .u32 0, .int .u64 0, .int .u32 0, .int .i64 0, .int .i64 0, .slice none 0 0, .slice none 0 0] 26)
  have q0 := blk_alloc (o' := (.cells #[.int .i64 0, .int .i64 0, .int .i64 0, .int .i64 0, .int .u32 0, .int .u64 0, .int .u32 0, .int .i64 0, .int .i64 0, .slice none 0 0, .slice none 0 0] 26)) (heap_alloc_new w (.cells #[.int .i64 d, .int .i64 k, .int .i64 f, .int .i64 dp, .int .u32 lf, .int .u64 off, .int .u32 xof, .int .i64 nd, .int .i64 inn, .slice a1 n1 c1, .slice a2 n2 c2] 26))
  have q1 := heap_alloc_new (w.alloc (.cells #[.int .i64 d, .int .i64 k, .int .i64 f, .int .i64 dp, .int .u32 lf, .int .u64 off, .int .u32 xof, .int .i64 nd, .int .i64 inn, .slice a1 n1 c1, .slice a2 n2 c2] 26)) (.cells #[.int .i64 0, .int .i64 0, .int .i64 0, .int .i64 0, .int .u32 0, .int .u64 0, .int .u32 0, .int .i64 0, .int .i64 0, .slice none 0 0, .slice none 0 0] 26)
  rw [show (w.alloc (.cells #[.int .i64 d, .int .i64 k, .int .i64 f, .int .i64 dp, .int .u32 lf, .int .u64 off, .int .u32 xof, .int .i64 nd, .int .i64 inn, .slice a1 n1 c1, .slice a2 n2 c2] 26)).heap.size = w.heap.size + 1 by simp] at q1
  have HS := TW.hide (rsmall u h)
  have e1 : IntKind.u32.wrap (u : Int) = (u : Int) % 4294967296 := by rw [IntKind.wrap_u32]
  clear h
  go_enter Tryd.func37, Tryd.ntmps37
  refine wp_seq_k fun KK hK => ?_
  have HK := TW.hide hK
  clear hK
  go_wp2
  refine HK.out _ _ ?_
  clear HK KK
  generalize (w.alloc (.cells #[.int .i64 d, .int .i64 k, .int .i64 f, .int .i64 dp, .int .u32 lf, .int .u64 off, .int .u32 xof, .int .i64 nd, .int .i64 inn, .slice a1 n1 c1, .slice a2 n2 c2] 26)).alloc (.cells #[.int .i64 0, .int .i64 0, .int .i64 0, .int .i64 0, .int .u32 0, .int .u64 0, .int .u32 0, .int .i64 0, .int .i64 0, .slice none 0 0, .slice none 0 0] 26) = W at *
  generalize hB : w.heap.size = B at *
  have c0 := blk_cell (i := 5) q0 rfl
  have f0 : W.frozen? ⟨B, 5, none⟩ = false := by simp [World.frozen?, q0]
  have r0 : (W.setCell ⟨B, 5, none⟩ (.int .u64 (u : Int))).heap[B]? = some (.cells #[.int .i64 d, .int .i64 k, .int .i64 f, .int .i64 dp, .int .u32 lf, .int .u64 (u : Int), .int .u32 xof, .int .i64 nd, .int .i64 inn, .slice a1 n1 c1, .slice a2 n2 c2] 26 (0, 0)) := blk_set (i := 5) (u := (.int .u64 (u : Int))) q0
  have r1 := blk_other (p := B) (o := 5) (u := (.int .u64 (u : Int))) q1 (by omega)
  have BB : Hid (Below B w (W.setCell ⟨B, 5, none⟩ (.int .u64 (u : Int)))) := hb.setCell (Nat.le_refl _) _
  clear q0 q1 hb
  refine wp_seq_k fun KK hK => ?_
  have HK := TW.hide hK
  clear hK
  go_wp2_with fail
  refine HK.out _ _ ?_
  clear HK KK c0 f0 e1 HS
  generalize W.setCell ⟨B, 5, none⟩ (.int .u64 (u : Int)) = X at *
  have s1 := setRow_heap _ _ _ #[.int .i64 d, .int .i64 k, .int .i64 f, .int .i64 dp, .int .u32 lf, .int .u64 (u : Int), .int .u32 xof, .int .i64 nd, .int .i64 inn, .slice a1 n1 c1, .slice a2 n2 c2] _ _ r1
  have BC : Hid (Below B w (X.setRow (B + 1) #[.int .i64 d, .int .i64 k, .int .i64 f, .int .i64 dp, .int .u32 lf, .int .u64 (u : Int), .int .u32 xof, .int .i64 nd, .int .i64 inn, .slice a1 n1 c1, .slice a2 n2 c2])) := below_setRow BB.out (by omega)
  go_wp2_with (first | (refine wpList_val (.agg #[.int .i64 d, .int .i64 k, .int .i64 f, .int .i64 dp, .int .u32 lf, .int .u64 (u : Int), .int .u32 xof, .int .i64 nd, .int .i64 inn, .slice a1 n1 c1, .slice a2 n2 c2]) (by rfl) (exec_load_row' 26 _ (by rfl) (B) (by rfl) 26 #[.int .i64 d, .int .i64 k, .int .i64 f, .int .i64 dp, .int .u32 lf, .int .u64 (u : Int), .int .u32 xof, .int .i64 nd, .int .i64 inn, .slice a1 n1 c1, .slice a2 n2 c2] (0, 0) _ r0 Tryd.underlying26 rfl (by kernel_rfl)) ?_; simp only [Act.put, List.setIfInBounds_toArray, List.set_cons_zero, List.set_cons_succ, List.getElem_toArray, List.getElem_cons_zero, List.getElem_cons_succ]) | (refine wpList_store_row (by rfl) 26 _ _ (by rfl) (B + 1) #[.int .i64 d, .int .i64 k, .int .i64 f, .int .i64 dp, .int .u32 lf, .int .u64 (u : Int), .int .u32 xof, .int .i64 nd, .int .i64 inn, .slice a1 n1 c1, .slice a2 n2 c2] (by rfl) (by rfl) 26 _ r1 (by kernel_rfl) (by rfl) (by kernel_rfl) ?_; generalize X.setRow (B + 1) #[.int .i64 d, .int .i64 k, .int .i64 f, .int .i64 dp, .int .u32 lf, .int .u64 (u : Int), .int .u32 xof, .int .i64 nd, .int .i64 inn, .slice a1 n1 c1, .slice a2 n2 c2] = Y at *; simp only [Act.put, List.setIfInBounds_toArray, List.set_cons_zero, List.set_cons_succ, List.getElem_toArray, List.getElem_cons_zero, List.getElem_cons_succ]))
  refine bodyPost_ret (v := .agg #[.int .i64 d, .int .i64 k, .int .i64 f, .int .i64 dp, .int .u32 lf, .int .u64 (u : Int), .int .u32 xof, .int .i64 nd, .int .i64 inn, .slice a1 n1 c1, .slice a2 n2 c2]) ?_ rfl ?_
  · exact results_cell_row (P := Tryd.prog) Tryd.results37 _ _ (B + 1) 26 #[.int .i64 d, .int .i64 k, .int .i64 f, .int .i64 dp, .int .u32 lf, .int .u64 (u : Int), .int .u32 xof, .int .i64 nd, .int .i64 inn, .slice a1 n1 c1, .slice a2 n2 c2] (0, 0) _ rfl s1 Tryd.underlying26 rfl (by kernel_rfl)
  · exact ⟨rfl, BC.out⟩
set_option maxRecDepth 100000 in
set_option maxHeartbeats 2000000 in
theorem rset7 (d k f dp lf off xof nd inn : Int) (a1 a2 : Option Addr) (n1 c1 n2 c2 : Nat) (u : Nat) (h : u < 18446744073709551616) (w : World) :
    Calls Tryd.prog 37 #[.agg #[.int .i64 d, .int .i64 k, .int .i64 f, .int .i64 dp, .int .u32 lf, .int .u64 off, .int .u32 xof, .int .i64 nd, .int .i64 inn, .slice a1 n1 c1, .slice a2 n2 c2], .int .i64 7, .int .u64 u] w fun e w' => e = .returned (.agg #[.int .i64 d, .int .i64 k, .int .i64 f, .int .i64 dp, .int .u32 lf, .int .u64 off, .int .u32 ((u : Int) % 4294967296), .int .i64 nd, .int .i64 inn, .slice a1 n1 c1, .slice a2 n2 c2]) ∧ Below w.heap.size w w' := by
  have hb := ((Below.refl w.heap.size w).alloc (Nat.le_refl _) (.cells #[.int .i64 d, .int .i64 k, .int .i64 f, .int .i64 dp, .int .u32 lf, .int .u64 off, .int .u32 xof, .int .i64 nd, .int .i64 inn, .slice a1 n1 c1, .slice a2 n2 c2] 26)).alloc (by simp) (.cells #[.int .i64 0, .int .i64 0, .int .i64 0, .int .i64 0, .int .u32 0, .int .u64 0, .int .u32 0, .int .i64 0, .int .i64 0, .slice none 0 0, .slice none 0 0] 26)
  have q0 := blk_alloc (o' := (.cells #[.int .i64 0, .int .i64 0, .int .i64 0, .int .i64 0, .int .u32 0, .int .u64 0, .int .u32 0, .int .i64 0, .int .i64 0, .slice none 0 0, .slice none 0 0] 26)) (heap_alloc_new w (.cells #[.int .i64 d, .int .i64 k, .int .i64 f, .int .i64 dp, .int .u32 lf, .int .u64 off, .int .u32 xof, .int .i64 nd, .int .i64 inn, .slice a1 n1 c1, .slice a2 n2 c2] 26))
  have q1 := heap_alloc_new (w.alloc (.cells #[.int .i64 d, .int .i64 k, .int .i64 f, .int .i64 dp, .int .u32 lf, .int .u64 off, .int .u32 xof, .int .i64 nd, .int .i64 inn, .slice a1 n1 c1, .slice a2 n2 c2] 26)) (.cells #[.int .i64 0, .int .i64 0, .int .i64 0, .int .i64 0, .int .u32 0, .int .u64 0, .int .u32 0, .int .i64 0, .int .i64 0, .slice none 0 0, .slice none 0 0] 26)
  rw [show (w.alloc (.cells #[.int .i64 d, .int .i64 k, .int .i64 f, .int .i64 dp, .int .u32 lf, .int .u64 off, .int .u32 xof, .int .i64 nd, .int .i64 inn, .slice a1 n1 c1, .slice a2 n2 c2] 26)).heap.size = w.heap.size + 1 by simp] at q1
  have HS := TW.hide (rsmall u h)
  have e1 : IntKind.u32.wrap (u : Int) = (u : Int) % 4294967296 := by rw [IntKind.wrap_u32]
  clear h
  go_enter Tryd.func37, Tryd.ntmps37
  refine wp_seq_k fun KK hK => ?_
  have HK := TW.hide hK
  clear hK
  go_wp2
  refine HK.out _ _ ?_
  clear HK KK
  generalize (w.alloc (.cells #[.int .i64 d, .int .i64 k, .int .i64 f, .int .i64 dp, .int .u32 lf, .int .u64 off, .int .u32 xof, .int .i64 nd, .int .i64 inn, .slice a1 n1 c1, .slice a2 n2 c2] 26)).alloc (.cells #[.int .i64 0, .int .i64 0, .int .i64 0, .int .i64 0, .int .u32 0, .int .u64 0, .int .u32 0, .int .i64 0, .int .i64 0, .slice none 0 0, .slice none 0 0] 26) = W at *
  generalize hB : w.heap.size = B at *
  have c0 := blk_cell (i := 6) q0 rfl
  have f0 : W.frozen? ⟨B, 6, none⟩ = false := by simp [World.frozen?, q0]
  have r0 : (W.setCell ⟨B, 6, none⟩ (.int .u32 ((u : Int) % 4294967296))).heap[B]? = some (.cells #[.int .i64 d, .int .i64 k, .int .i64 f, .int .i64 dp, .int .u32 lf, .int .u64 off, .int .u32 ((u : Int) % 4294967296), .int .i64 nd, .int .i64 inn, .slice a1 n1 c1, .slice a2 n2 c2] 26 (0, 0)) := blk_set (i := 6) (u := (.int .u32 ((u : Int) % 4294967296))) q0
  have r1 := blk_other (p := B) (o := 6) (u := (.int .u32 ((u : Int) % 4294967296))) q1 (by omega)
  have BB : Hid (Below B w (W.setCell ⟨B, 6, none⟩ (.int .u32 ((u : Int) % 4294967296)))) := hb.setCell (Nat.le_refl _) _
  clear q0 q1 hb
  refine wp_seq_k fun KK hK => ?_
  have HK := TW.hide hK
  clear hK
  go_wp2_with fail
  refine HK.out _ _ ?_
  clear HK KK c0 f0 e1 HS
  generalize W.setCell ⟨B, 6, none⟩ (.int .u32 ((u : Int) % 4294967296)) = X at *
  have s1 := setRow_heap _ _ _ #[.int .i64 d, .int .i64 k, .int .i64 f, .int .i64 dp, .int .u32 lf, .int .u64 off, .int .u32 ((u : Int) % 4294967296), .int .i64 nd, .int .i64 inn, .slice a1 n1 c1, .slice a2 n2 c2] _ _ r1
  have BC : Hid (Below B w (X.setRow (B + 1) #[.int .i64 d, .int .i64 k, .int .i64 f, .int .i64 dp, .int .u32 lf, .int .u64 off, .int .u32 ((u : Int) % 4294967296), .int .i64 nd, .int .i64 inn, .slice a1 n1 c1, .slice a2 n2 c2])) := below_setRow BB.out (by omega)
  go_wp2_with (first | (refine wpList_val (.agg #[.int .i64 d, .int .i64 k, .int .i64 f, .int .i64 dp, .int .u32 lf, .int .u64 off, .int .u32 ((u : Int) % 4294967296), .int .i64 nd, .int .i64 inn, .slice a1 n1 c1, .slice a2 n2 c2]) (by rfl) (exec_load_row' 26 _ (by rfl) (B) (by rfl) 26 #[.int .i64 d, .int .i64 k, .int .i64 f, .int .i64 dp, .int .u32 lf, .int .u64 off, .int .u32 ((u : Int) % 4294967296), .int .i64 nd, .int .i64 inn, .slice a1 n1 c1, .slice a2 n2 c2] (0, 0) _ r0 Tryd.underlying26 rfl (by kernel_rfl)) ?_; simp only [Act.put, List.setIfInBounds_toArray, List.set_cons_zero, List.set_cons_succ, List.getElem_toArray, List.getElem_cons_zero, List.getElem_cons_succ]) | (refine wpList_store_row (by rfl) 26 _ _ (by rfl) (B + 1) #[.int .i64 d, .int .i64 k, .int .i64 f, .int .i64 dp, .int .u32 lf, .int .u64 off, .int .u32 ((u : Int) % 4294967296), .int .i64 nd, .int .i64 inn, .slice a1 n1 c1, .slice a2 n2 c2] (by rfl) (by rfl) 26 _ r1 (by kernel_rfl) (by rfl) (by kernel_rfl) ?_; generalize X.setRow (B + 1) #[.int .i64 d, .int .i64 k, .int .i64 f, .int .i64 dp, .int .u32 lf, .int .u64 off, .int .u32 ((u : Int) % 4294967296), .int .i64 nd, .int .i64 inn, .slice a1 n1 c1, .slice a2 n2 c2] = Y at *; simp only [Act.put, List.setIfInBounds_toArray, List.set_cons_zero, List.set_cons_succ, List.getElem_toArray, List.getElem_cons_zero, List.getElem_cons_succ]))
  refine bodyPost_ret (v := .agg #[.int .i64 d, .int .i64 k, .int .i64 f, .int .i64 dp, .int .u32 lf, .int .u64 off, .int .u32 ((u : Int) % 4294967296), .int .i64 nd, .int .i64 inn, .slice a1 n1 c1, .slice a2 n2 c2]) ?_ rfl ?_
  · exact results_cell_row (P := Tryd.prog) Tryd.results37 _ _ (B + 1) 26 #[.int .i64 d, .int .i64 k, .int .i64 f, .int .i64 dp, .int .u32 lf, .int .u64 off, .int .u32 ((u : Int) % 4294967296), .int .i64 nd, .int .i64 inn, .slice a1 n1 c1, .slice a2 n2 c2] (0, 0) _ rfl s1 Tryd.underlying26 rfl (by kernel_rfl)
  · exact ⟨rfl, BC.out⟩
set_option maxRecDepth 100000 in
set_option maxHeartbeats 2000000 in
theorem rset8 (d k f dp lf off xof nd inn : Int) (a1 a2 : Option Addr) (n1 c1 n2 c2 : Nat) (u : Nat) (h : u < 18446744073709551616) (w : World) :
    Calls Tryd.prog 37 #[.agg #[.int .i64 d, .int .i64 k, .int .i64 f, .int .i64 dp, .int .u32 lf, .int .u64 off, .int .u32 xof, .int .i64 nd, .int .i64 inn, .slice a1 n1 c1, .slice a2 n2 c2], .int .i64 8, .int .u64 u] w fun e w' => e = .returned (.agg #[.int .i64 d, .int .i64 k, .int .i64 f, .int .i64 dp, .int .u32 lf, .int .u64 off, .int .u32 xof, .int .i64 (min (u : Int) 2147483647), .int .i64 inn, .slice a1 n1 c1, .slice a2 n2 c2]) ∧ Below w.heap.size w w' := by
  have hb := ((Below.refl w.heap.size w).alloc (Nat.le_refl _) (.cells #[.int .i64 d, .int .i64 k, .int .i64 f, .int .i64 dp, .int .u32 lf, .int .u64 off, .int .u32 xof, .int .i64 nd, .int .i64 inn, .slice a1 n1 c1, .slice a2 n2 c2] 26)).alloc (by simp) (.cells #[.int .i64 0, .int .i64 0, .int .i64 0, .int .i64 0, .int .u32 0, .int .u64 0, .int .u32 0, .int .i64 0, .int .i64 0, .slice none 0 0, .slice none 0 0] 26)
  have q0 := blk_alloc (o' := (.cells #[.int .i64 0, .int .i64 0, .int .i64 0, .int .i64 0, .int .u32 0, .int .u64 0, .int .u32 0, .int .i64 0, .int .i64 0, .slice none 0 0, .slice none 0 0] 26)) (heap_alloc_new w (.cells #[.int .i64 d, .int .i64 k, .int .i64 f, .int .i64 dp, .int .u32 lf, .int .u64 off, .int .u32 xof, .int .i64 nd, .int .i64 inn, .slice a1 n1 c1, .slice a2 n2 c2] 26))
  have q1 := heap_alloc_new (w.alloc (.cells #[.int .i64 d, .int .i64 k, .int .i64 f, .int .i64 dp, .int .u32 lf, .int .u64 off, .int .u32 xof, .int .i64 nd, .int .i64 inn, .slice a1 n1 c1, .slice a2 n2 c2] 26)) (.cells #[.int .i64 0, .int .i64 0, .int .i64 0, .int .i64 0, .int .u32 0, .int .u64 0, .int .u32 0, .int .i64 0, .int .i64 0, .slice none 0 0, .slice none 0 0] 26)
  rw [show (w.alloc (.cells #[.int .i64 d, .int .i64 k, .int .i64 f, .int .i64 dp, .int .u32 lf, .int .u64 off, .int .u32 xof, .int .i64 nd, .int .i64 inn, .slice a1 n1 c1, .slice a2 n2 c2] 26)).heap.size = w.heap.size + 1 by simp] at q1
  have HS := TW.hide (rsmall u h)
  have e1 : IntKind.u32.wrap (u : Int) = (u : Int) % 4294967296 := by rw [IntKind.wrap_u32]
  clear h
  go_enter Tryd.func37, Tryd.ntmps37
  refine wp_seq_k fun KK hK => ?_
  have HK := TW.hide hK
  clear hK
  go_wp2
  refine HK.out _ _ ?_
  clear HK KK
  generalize (w.alloc (.cells #[.int .i64 d, .int .i64 k, .int .i64 f, .int .i64 dp, .int .u32 lf, .int .u64 off, .int .u32 xof, .int .i64 nd, .int .i64 inn, .slice a1 n1 c1, .slice a2 n2 c2] 26)).alloc (.cells #[.int .i64 0, .int .i64 0, .int .i64 0, .int .i64 0, .int .u32 0, .int .u64 0, .int .u32 0, .int .i64 0, .int .i64 0, .slice none 0 0, .slice none 0 0] 26) = W at *
  generalize hB : w.heap.size = B at *
  have c0 := blk_cell (i := 7) q0 rfl
  have f0 : W.frozen? ⟨B, 7, none⟩ = false := by simp [World.frozen?, q0]
  have r0 : (W.setCell ⟨B, 7, none⟩ (.int .i64 (min (u : Int) 2147483647))).heap[B]? = some (.cells #[.int .i64 d, .int .i64 k, .int .i64 f, .int .i64 dp, .int .u32 lf, .int .u64 off, .int .u32 xof, .int .i64 (min (u : Int) 2147483647), .int .i64 inn, .slice a1 n1 c1, .slice a2 n2 c2] 26 (0, 0)) := blk_set (i := 7) (u := (.int .i64 (min (u : Int) 2147483647))) q0
  have r1 := blk_other (p := B) (o := 7) (u := (.int .i64 (min (u : Int) 2147483647))) q1 (by omega)
  have BB : Hid (Below B w (W.setCell ⟨B, 7, none⟩ (.int .i64 (min (u : Int) 2147483647)))) := hb.setCell (Nat.le_refl _) _
  clear q0 q1 hb
  refine wp_seq_k fun KK hK => ?_
  have HK := TW.hide hK
  clear hK
  go_wp2_with fail
  refine (HS.out _).mono ?_
  rintro e w1 ⟨rfl, rfl⟩
  go_wp2_with fail
  refine HK.out _ _ ?_
  clear HK KK c0 f0 e1 HS
  generalize W.setCell ⟨B, 7, none⟩ (.int .i64 (min (u : Int) 2147483647)) = X at *
  have s1 := setRow_heap _ _ _ #[.int .i64 d, .int .i64 k, .int .i64 f, .int .i64 dp, .int .u32 lf, .int .u64 off, .int .u32 xof, .int .i64 (min (u : Int) 2147483647), .int .i64 inn, .slice a1 n1 c1, .slice a2 n2 c2] _ _ r1
  have BC : Hid (Below B w (X.setRow (B + 1) #[.int .i64 d, .int .i64 k, .int .i64 f, .int .i64 dp, .int .u32 lf, .int .u64 off, .int .u32 xof, .int .i64 (min (u : Int) 2147483647), .int .i64 inn, .slice a1 n1 c1, .slice a2 n2 c2])) := below_setRow BB.out (by omega)
  go_wp2_with (first | (refine wpList_val (.agg #[.int .i64 d, .int .i64 k, .int .i64 f, .int .i64 dp, .int .u32 lf, .int .u64 off, .int .u32 xof, .int .i64 (min (u : Int) 2147483647), .int .i64 inn, .slice a1 n1 c1, .slice a2 n2 c2]) (by rfl) (exec_load_row' 26 _ (by rfl) (B) (by rfl) 26 #[.int .i64 d, .int .i64 k, .int .i64 f, .int .i64 dp, .int .u32 lf, .int .u64 off, .int .u32 xof, .int .i64 (min (u : Int) 2147483647), .int .i64 inn, .slice a1 n1 c1, .slice a2 n2 c2] (0, 0) _ r0 Tryd.underlying26 rfl (by kernel_rfl)) ?_; simp only [Act.put, List.setIfInBounds_toArray, List.set_cons_zero, List.set_cons_succ, List.getElem_toArray, List.getElem_cons_zero, List.getElem_cons_succ]) | (refine wpList_store_row (by rfl) 26 _ _ (by rfl) (B + 1) #[.int .i64 d, .int .i64 k, .int .i64 f, .int .i64 dp, .int .u32 lf, .int .u64 off, .int .u32 xof, .int .i64 (min (u : Int) 2147483647), .int .i64 inn, .slice a1 n1 c1, .slice a2 n2 c2] (by rfl) (by rfl) 26 _ r1 (by kernel_rfl) (by rfl) (by kernel_rfl) ?_; generalize X.setRow (B + 1) #[.int .i64 d, .int .i64 k, .int .i64 f, .int .i64 dp, .int .u32 lf, .int .u64 off, .int .u32 xof, .int .i64 (min (u : Int) 2147483647), .int .i64 inn, .slice a1 n1 c1, .slice a2 n2 c2] = Y at *; simp only [Act.put, List.setIfInBounds_toArray, List.set_cons_zero, List.set_cons_succ, List.getElem_toArray, List.getElem_cons_zero, List.getElem_cons_succ]))
  refine bodyPost_ret (v := .agg #[.int .i64 d, .int .i64 k, .int .i64 f, .int .i64 dp, .int .u32 lf, .int .u64 off, .int .u32 xof, .int .i64 (min (u : Int) 2147483647), .int .i64 inn, .slice a1 n1 c1, .slice a2 n2 c2]) ?_ rfl ?_
  · exact results_cell_row (P := Tryd.prog) Tryd.results37 _ _ (B + 1) 26 #[.int .i64 d, .int .i64 k, .int .i64 f, .int .i64 dp, .int .u32 lf, .int .u64 off, .int .u32 xof, .int .i64 (min (u : Int) 2147483647), .int .i64 inn, .slice a1 n1 c1, .slice a2 n2 c2] (0, 0) _ rfl s1 Tryd.underlying26 rfl (by kernel_rfl)
  · exact ⟨rfl, BC.out⟩
set_option maxRecDepth 100000 in
set_option maxHeartbeats 2000000 in
theorem rset9 (d k f dp lf off xof nd inn : Int) (a1 a2 : Option Addr) (n1 c1 n2 c2 : Nat) (u : Nat) (h : u < 18446744073709551616) (w : World) :
    Calls Tryd.prog 37 #[.agg #[.int .i64 d, .int .i64 k, .int .i64 f, .int .i64 dp, .int .u32 lf, .int .u64 off, .int .u32 xof, .int .i64 nd, .int .i64 inn, .slice a1 n1 c1, .slice a2 n2 c2], .int .i64 9, .int .u64 u] w fun e w' => e = .returned (.agg #[.int .i64 d, .int .i64 k, .int .i64 f, .int .i64 dp, .int .u32 lf, .int .u64 off, .int .u32 xof, .int .i64 nd, .int .i64 (min (u : Int) 2147483647), .slice a1 n1 c1, .slice a2 n2 c2]) ∧ Below w.heap.size w w' := by
  have hb := ((Below.refl w.heap.size w).alloc (Nat.le_refl _) (.cells #[.int .i64 d, .int .i64 k, .int .i64 f, .int .i64 dp, .int .u32 lf, .int .u64 off, .int .u32 xof, .int .i64 nd, .int .i64 inn, .slice a1 n1 c1, .slice a2 n2 c2] 26)).alloc (by simp) (.cells #[.int .i64 0, .int .i64 0, .int .i64 0, .int .i64 0, .int .u32 0, .int .u64 0, .int .u32 0, .int .i64 0, .int .i64 0, .slice none 0 0, .slice none 0 0] 26)
  have q0 := blk_alloc (o' := (.cells #[.int .i64 0, .int .i64 0, .int .i64 0, .int .i64 0, .int .u32 0, .int .u64 0, .int .u32 0, .int .i64 0, .int .i64 0, .slice none 0 0, .slice none 0 0] 26)) (heap_alloc_new w (.cells #[.int .i64 d, .int .i64 k, .int .i64 f, .int .i64 dp, .int .u32 lf, .int .u64 off, .int .u32 xof, .int .i64 nd, .int .i64 inn, .slice a1 n1 c1, .slice a2 n2 c2] 26))
  have q1 := heap_alloc_new (w.alloc (.cells #[.int .i64 d, .int .i64 k, .int .i64 f, .int .i64 dp, .int .u32 lf, .int .u64 off, .int .u32 xof, .int .i64 nd, .int .i64 inn, .slice a1 n1 c1, .slice a2 n2 c2] 26)) (.cells #[.int .i64 0, .int .i64 0, .int .i64 0, .int .i64 0, .int .u32 0, .int .u64 0, .int .u32 0, .int .i64 0, .int .i64 0, .slice none 0 0, .slice none 0 0] 26)
  rw [show (w.alloc (.cells #[.int .i64 d, .int .i64 k, .int .i64 f, .int .i64 dp, .int .u32 lf, .int .u64 off, .int .u32 xof, .int .i64 nd, .int .i64 inn, .slice a1 n1 c1, .slice a2 n2 c2] 26)).heap.size = w.heap.size + 1 by simp] at q1
  have HS := TW.hide (rsmall u h)
  have e1 : IntKind.u32.wrap (u : Int) = (u : Int) % 4294967296 := by rw [IntKind.wrap_u32]
  clear h
  go_enter Tryd.func37, Tryd.ntmps37
  refine wp_seq_k fun KK hK => ?_
  have HK := TW.hide hK
  clear hK
  go_wp2
  refine HK.out _ _ ?_
  clear HK KK
  generalize (w.alloc (.cells #[.int .i64 d, .int .i64 k, .int .i64 f, .int .i64 dp, .int .u32 lf, .int .u64 off, .int .u32 xof, .int .i64 nd, .int .i64 inn, .slice a1 n1 c1, .slice a2 n2 c2] 26)).alloc (.cells #[.int .i64 0, .int .i64 0, .int .i64 0, .int .i64 0, .int .u32 0, .int .u64 0, .int .u32 0, .int .i64 0, .int .i64 0, .slice none 0 0, .slice none 0 0] 26) = W at *
  generalize hB : w.heap.size = B at *
  have c0 := blk_cell (i := 8) q0 rfl
  have f0 : W.frozen? ⟨B, 8, none⟩ = false := by simp [World.frozen?, q0]
  have r0 : (W.setCell ⟨B, 8, none⟩ (.int .i64 (min (u : Int) 2147483647))).heap[B]? = some (.cells #[.int .i64 d, .int .i64 k, .int .i64 f, .int .i64 dp, .int .u32 lf, .int .u64 off, .int .u32 xof, .int .i64 nd, .int .i64 (min (u : Int) 2147483647), .slice a1 n1 c1, .slice a2 n2 c2] 26 (0, 0)) := blk_set (i := 8) (u := (.int .i64 (min (u : Int) 2147483647))) q0
  have r1 := blk_other (p := B) (o := 8) (u := (.int .i64 (min (u : Int) 2147483647))) q1 (by omega)
  have BB : Hid (Below B w (W.setCell ⟨B, 8, none⟩ (.int .i64 (min (u : Int) 2147483647)))) := hb.setCell (Nat.le_refl _) _
  clear q0 q1 hb
  refine wp_seq_k fun KK hK => ?_
  have HK := TW.hide hK
  clear hK
  go_wp2_with fail
  refine (HS.out _).mono ?_
  rintro e w1 ⟨rfl, rfl⟩
  go_wp2_with fail
  refine HK.out _ _ ?_
  clear HK KK c0 f0 e1 HS
  generalize W.setCell ⟨B, 8, none⟩ (.int .i64 (min (u : Int) 2147483647)) = X at *
  have s1 := setRow_heap _ _ _ #[.int .i64 d, .int .i64 k, .int .i64 f, .int .i64 dp, .int .u32 lf, .int .u64 off, .int .u32 xof, .int .i64 nd, .int .i64 (min (u : Int) 2147483647), .slice a1 n1 c1, .slice a2 n2 c2] _ _ r1
  have BC : Hid (Below B w (X.setRow (B + 1) #[.int .i64 d, .int .i64 k, .int .i64 f, .int .i64 dp, .int .u32 lf, .int .u64 off, .int .u32 xof, .int .i64 nd, .int .i64 (min (u : Int) 2147483647), .slice a1 n1 c1, .slice a2 n2 c2])) := below_setRow BB.out (by omega)
  go_wp2_with (first | (refine wpList_val (.agg #[.int .i64 d, .int .i64 k, .int .i64 f, .int .i64 dp, .int .u32 lf, .int .u64 off, .int .u32 xof, .int .i64 nd, .int .i64 (min (u : Int) 2147483647), .slice a1 n1 c1, .slice a2 n2 c2]) (by rfl) (exec_load_row' 26 _ (by rfl) (B) (by rfl) 26 #[.int .i64 d, .int .i64 k, .int .i64 f, .int .i64 dp, .int .u32 lf, .int .u64 off, .int .u32 xof, .int .i64 nd, .int .i64 (min (u : Int) 2147483647), .slice a1 n1 c1, .slice a2 n2 c2] (0, 0) _ r0 Tryd.underlying26 rfl (by kernel_rfl)) ?_; simp only [Act.put, List.setIfInBounds_toArray, List.set_cons_zero, List.set_cons_succ, List.getElem_toArray, List.getElem_cons_zero, List.getElem_cons_succ]) | (refine wpList_store_row (by rfl) 26 _ _ (by rfl) (B + 1) #[.int .i64 d, .int .i64 k, .int .i64 f, .int .i64 dp, .int .u32 lf, .int .u64 off, .int .u32 xof, .int .i64 nd, .int .i64 (min (u : Int) 2147483647), .slice a1 n1 c1, .slice a2 n2 c2] (by rfl) (by rfl) 26 _ r1 (by kernel_rfl) (by rfl) (by kernel_rfl) ?_; generalize X.setRow (B + 1) #[.int .i64 d, .int .i64 k, .int .i64 f, .int .i64 dp, .int .u32 lf, .int .u64 off, .int .u32 xof, .int .i64 nd, .int .i64 (min (u : Int) 2147483647), .slice a1 n1 c1, .slice a2 n2 c2] = Y at *; simp only [Act.put, List.setIfInBounds_toArray, List.set_cons_zero, List.set_cons_succ, List.getElem_toArray, List.getElem_cons_zero, List.getElem_cons_succ]))
  refine bodyPost_ret (v := .agg #[.int .i64 d, .int .i64 k, .int .i64 f, .int .i64 dp, .int .u32 lf, .int .u64 off, .int .u32 xof, .int .i64 nd, .int .i64 (min (u : Int) 2147483647), .slice a1 n1 c1, .slice a2 n2 c2]) ?_ rfl ?_
  · exact results_cell_row (P := Tryd.prog) Tryd.results37 _ _ (B + 1) 26 #[.int .i64 d, .int .i64 k, .int .i64 f, .int .i64 dp, .int .u32 lf, .int .u64 off, .int .u32 xof, .int .i64 nd, .int .i64 (min (u : Int) 2147483647), .slice a1 n1 c1, .slice a2 n2 c2] (0, 0) _ rfl s1 Tryd.underlying26 rfl (by kernel_rfl)
  · exact ⟨rfl, BC.out⟩
theorem rsetP (q : Pm) (f : Int) (h1 : 1 ≤ f) (h9 : f ≤ 9) (a1 a2 : Option Addr) (n1 c1 n2 c2 : Nat) (u : Nat) (h : u < 18446744073709551616) (w : World) :
    Calls Tryd.prog 37 #[.agg (pcP q (.slice a1 n1 c1) (.slice a2 n2 c2)), .int .i64 f, .int .u64 u] w fun e w' => e = .returned (.agg (pcP (setQ q f u) (.slice a1 n1 c1) (.slice a2 n2 c2))) ∧ Below w.heap.size w w' := by
  have : f = 1 ∨ f = 2 ∨ f = 3 ∨ f = 4 ∨ f = 5 ∨ f = 6 ∨ f = 7 ∨ f = 8 ∨ f = 9 := by omega
  rcases this with rfl | rfl | rfl | rfl | rfl | rfl | rfl | rfl | rfl
  · exact (rset1 q.d q.k q.f q.dp q.lf q.off q.xof q.nd q.inn a1 a2 n1 c1 n2 c2 u h w).mono fun e w' h => by simpa [setQ, svV, pcP, pc] using h
  · exact (rset2 q.d q.k q.f q.dp q.lf q.off q.xof q.nd q.inn a1 a2 n1 c1 n2 c2 u h w).mono fun e w' h => by simpa [setQ, svV, pcP, pc] using h
  · exact (rset3 q.d q.k q.f q.dp q.lf q.off q.xof q.nd q.inn a1 a2 n1 c1 n2 c2 u h w).mono fun e w' h => by simpa [setQ, svV, pcP, pc] using h
  · exact (rset4 q.d q.k q.f q.dp q.lf q.off q.xof q.nd q.inn a1 a2 n1 c1 n2 c2 u h w).mono fun e w' h => by simpa [setQ, svV, pcP, pc] using h
  · exact (rset5 q.d q.k q.f q.dp q.lf q.off q.xof q.nd q.inn a1 a2 n1 c1 n2 c2 u h w).mono fun e w' h => by simpa [setQ, svV, pcP, pc] using h
  · exact (rset6 q.d q.k q.f q.dp q.lf q.off q.xof q.nd q.inn a1 a2 n1 c1 n2 c2 u h w).mono fun e w' h => by simpa [setQ, svV, pcP, pc] using h
  · exact (rset7 q.d q.k q.f q.dp q.lf q.off q.xof q.nd q.inn a1 a2 n1 c1 n2 c2 u h w).mono fun e w' h => by simpa [setQ, svV, pcP, pc] using h
  · exact (rset8 q.d q.k q.f q.dp q.lf q.off q.xof q.nd q.inn a1 a2 n1 c1 n2 c2 u h w).mono fun e w' h => by simpa [setQ, svV, pcP, pc] using h
  · exact (rset9 q.d q.k q.f q.dp q.lf q.off q.xof q.nd q.inn a1 a2 n1 c1 n2 c2 u h w).mono fun e w' h => by simpa [setQ, svV, pcP, pc] using h
end LW
end Go.Proofs.YteakoajkmcbilabDoor
namespace Go.Proofs.YteakoajkmcbilabDoor
open Go.RowKit Go.Shelf
set_option linter.unusedVariables false
set_option linter.unusedSimpArgs false
namespace LW
open Words Txt
theorem strOf_extract (l : List Int) (a b : Nat) : (strOfNums l).extract a b = strOfNums ((l.drop a).take (b - a)) := by
  apply ByteArray.ext
  apply Array.toList_inj.1
  simp [strOfNums, ByteArray.data_extract]
theorem mid_take (pre wd rest : List Int) : ((pre ++ (wd ++ rest)).drop pre.length).take (pre.length + wd.length - pre.length) = wd := by
  rw [List.drop_left, Nat.add_sub_cancel_left, List.take_left]
theorem mid_get (pre wd rest : List Int) (k : Nat) (h : k < wd.length) : (pre ++ (wd ++ rest)).getD (pre.length + k) 0 = wd.getD k 0 := by
  simp [List.getD_eq_getElem?_getD, List.getElem?_append_right, List.getElem?_append_left, h]
theorem mid_end (pre wd rest : List Int) : (pre ++ (wd ++ rest)).getD (pre.length + wd.length) 0 = rest.getD 0 0 := by
  simp [List.getD_eq_getElem?_getD, List.getElem?_append_right]
attribute [local go_sem ↓] Go.wp_at_zero Go.wp_at_succ
set_option maxRecDepth 100000 in
theorem rword (pre wd rest : List Int) (hb : Byt (pre ++ (wd ++ rest))) (hf : ∀ z ∈ wd, z ≠ 32) (hr : rest = [] ∨ ∃ r, rest = 32 :: r) (hl : (pre ++ (wd ++ rest)).length ≤ 512) (w : World) :
    Calls Tryd.prog 32 #[.string (strOfNums (pre ++ (wd ++ rest))), .int .i64 pre.length] w fun e w' => e = .returned (.string (strOfNums wd)) ∧ w = w' := by
  have hix := fun k h => index_s (strOfNums (pre ++ (wd ++ rest))) k (by rw [strOf_size]; exact h) (by rw [strOf_size]; omega)
  rw [sb_str _ hb] at hix
  have hsz := strOf_size (pre ++ (wd ++ rest))
  have hex := strOf_extract (pre ++ (wd ++ rest)) pre.length (pre.length + wd.length)
  rw [mid_take] at hex
  have hin : ∀ k, k < wd.length → ∀ W, (Instr.index 9 (.string (strOfNums (pre ++ (wd ++ rest)))) (.int .i64 ((pre.length : Int) + k))).run Tryd.prog W = .ok (.int .u8 (wd.getD k 0)) W := fun k hk W => by
    have := hix (pre.length + k) (by simp; omega) W
    rw [mid_get _ _ _ _ hk] at this
    simpa using this
  have hen : rest ≠ [] → ∀ W, (Instr.index 9 (.string (strOfNums (pre ++ (wd ++ rest)))) (.int .i64 ((pre.length : Int) + wd.length))).run Tryd.prog W = .ok (.int .u8 32) W := fun hne W => by
    obtain ⟨r, rfl⟩ := hr.resolve_left hne
    have := hix (pre.length + wd.length) (by simp) W
    rw [mid_end] at this
    simpa using this
  have hsl : ∀ W, (Instr.slice 9 (.string (strOfNums (pre ++ (wd ++ rest)))) (some (.int .i64 (pre.length : Int))) (some (.int .i64 ((pre.length : Int) + wd.length))) none).run Tryd.prog W = .ok (.string (strOfNums wd)) W := fun W => by
    have := run_slice_string (P := Tryd.prog) W 9 (strOfNums (pre ++ (wd ++ rest))) .i64 .i64 (pre.length : Int) ((pre.length : Int) + wd.length) Tryd.underlying9 (by omega) (by omega) (by rw [hsz]; simp; omega)
    rw [this, ← hex]
    congr 3
  have hne : ∀ k, k < wd.length → wd.getD k 0 ≠ 32 := fun k hk => hf _ (by rw [List.getD_eq_getElem?_getD, List.getElem?_eq_getElem hk]; exact List.getElem_mem hk)
  have hln : (pre ++ (wd ++ rest)).length = pre.length + wd.length + rest.length := by simp; omega
  rw [hln] at hl hsz
  have HIN := TW.hide hin
  have HEN := TW.hide hen
  have HNE := TW.hide hne
  have HSL := TW.hide hsl
  have hr0 : rest ≠ [] ↔ 0 < rest.length := by cases rest <;> simp
  clear hix hin hen hne hex hsl hb hf hr hln
  generalize pre ++ (wd ++ rest) = L at *
  generalize hS : strOfNums L = s at *
  generalize hp : pre.length = p at *
  generalize hm : wd.length = m at *
  generalize hq : rest.length = q at *
  clear hS hp hm hq
  go_enter Tryd.func32, Tryd.ntmps32
  go_wp2
  go_loop [5] (fun i => ∃ k : Nat, k ≤ m ∧ i = .int .i64 ((p : Int) + k)) (fun i => p + m - (intOf i).toNat)
  case atStart => exact ⟨0, Nat.zero_le _, by simp⟩
  case round =>
    obtain ⟨k, hk, rfl⟩ := hrel
    by_cases hlt : k < m
    · have hi := HIN.out k hlt
      have hz := HNE.out k hlt
      have hzb : (wd.getD k 0 != 32) = true := bne_iff_ne.2 hz
      have hc : (p : Int) + k < (s.size : Int) := by omega
      generalize wd.getD k 0 = c at *
      clear hz
      go_wp2
      go_round
      case rel => exact ⟨k + 1, by omega, by go_num⟩
      case measure => simp [intOf]; omega
    · obtain rfl : k = m := by omega
      by_cases hq : 0 < q
      · have hi := HEN.out (hr0.2 hq)
        have hc : (p : Int) + k < (s.size : Int) := by omega
        have hsl := HSL.out
        go_wp2
        go_ret
        exact ⟨rfl, rfl⟩
      · have hc : ¬ (p : Int) + k < (s.size : Int) := by omega
        have hsl := HSL.out
        go_wp2
        go_ret
        exact ⟨rfl, rfl⟩
/-- What the document's field gives. -/
def rfl_ (o : Option (Nat × List Int)) : Value := match o with
  | none => .tuple #[.int .i64 0, .string (strOfNums [])]
  | some (k, v) => .tuple #[.int .i64 ((k : Int) + 1), .string (strOfNums v)]
theorem pre_take (m w : List Int) (h : m.isPrefixOf w = true) : m.length ≤ w.length ∧ w.take m.length = m := by
  obtain ⟨t, rfl⟩ := List.isPrefixOf_iff_prefix.1 h
  simp
theorem pre_not (m w : List Int) (h : m.isPrefixOf w = false) : ¬ (m.length ≤ w.length ∧ w.take m.length = m) := by
  rintro ⟨h1, h2⟩
  have : m.isPrefixOf w = true := List.isPrefixOf_iff_prefix.2 ⟨w.drop m.length, by rw [show m ++ w.drop m.length = w.take m.length ++ w.drop m.length by rw [h2]]; exact List.take_append_drop _ _⟩
  rw [h] at this; cases this
theorem Byt.take {l : List Int} (h : Byt l) (n : Nat) : Byt (l.take n) := fun z hz => h z (List.mem_of_mem_take hz)
theorem fldN_at (w : List Int) (j : Nat) (hj : j < 11) : fldN w (11 - j) = if (nmL ((j : Int) + 1) ++ [61]).isPrefixOf w = true then some (j, w.drop ((nmL ((j : Int) + 1)).length + 1)) else fldN w (11 - (j + 1)) := by
  obtain ⟨n, hn⟩ : ∃ n, 11 - j = n + 1 := ⟨10 - j, by omega⟩
  have e1 : (11 - (n : Int)) = (j : Int) + 1 := by omega
  have e2 : 11 - (j + 1) = n := by omega
  have e3 : 10 - n = j := by omega
  rw [hn, fldN, e1, e2, e3]
theorem nm_byt (f : Int) : Byt (nmL f ++ [61]) := fun z hz => by
  rcases List.mem_append.1 hz with h | h
  · have := nmL_let f z h; omega
  · simp at h; omega
theorem nm_len (f : Int) : (nmL f).length ≤ 16 := by
  unfold nmL
  repeat' split
  all_goals simp
theorem slTo (s : ByteArray) (n : Nat) (h : n ≤ s.size) (w : World) : (Instr.slice 9 (.string s) none (some (.int .i64 (n : Int))) none).run Tryd.prog w = .ok (.string (s.extract 0 n)) w := by
  have h0 : (0 : Int) ≤ (n : Int) := by omega
  have h1 : (n : Int) ≤ (s.size : Int) := by omega
  have := run_slice_string_h (P := Tryd.prog) (w := w) (t := 9) (s := s) Tryd.underlying9 .i64 (n : Int) h0 h1
  simpa using this
theorem slFrom (s : ByteArray) (n : Nat) (h : n ≤ s.size) (w : World) : (Instr.slice 9 (.string s) (some (.int .i64 (n : Int))) none none).run Tryd.prog w = .ok (.string (s.extract n s.size)) w := by
  have h0 : (0 : Int) ≤ (n : Int) := by omega
  have h1 : (n : Int) ≤ (s.size : Int) := by omega
  have := run_slice_string_l (P := Tryd.prog) (w := w) (t := 9) (s := s) Tryd.underlying9 .i64 (n : Int) h0 h1
  simpa using this
end LW
end Go.Proofs.YteakoajkmcbilabDoor
namespace Go.Proofs.YteakoajkmcbilabDoor
open Go.RowKit Go.Shelf
set_option linter.unusedVariables false
set_option linter.unusedSimpArgs false
namespace LW
open Words Txt
attribute [local go_sem ↓] Go.wp_at_zero Go.wp_at_succ
set_option maxRecDepth 100000 in
set_option maxHeartbeats 2000000 in
theorem rfield (wd : List Int) (hb : Byt wd) (hl : wd.length ≤ 512) (r : Nat) (hr : r ≤ 11) (w : World) :
    Calls Tryd.prog 34 #[.string (strOfNums wd), .int .i64 r] w fun e w' => e = .returned (rfl_ (fldN wd (11 - r))) ∧ Below w.heap.size w w' := by
  have hsz := strOf_size wd
  have HRO : Hid (∀ j : Nat, j < 11 → ∃ ns x y : ByteArray, ∃ c : Bool, (∀ W, Calls Tryd.prog 26 #[.int .i64 ((j : Int) + 1)] W fun e w' => e = .returned (.string ns) ∧ W = w') ∧ ns.size ≤ 17 ∧
      (ns.size ≤ (strOfNums wd).size → (∀ W, (Instr.slice 9 (.string (strOfNums wd)) none (some (.int .i64 (ns.size : Int))) none).run Tryd.prog W = .ok (.string x) W) ∧ (∀ W, (Instr.slice 9 (.string (strOfNums wd)) (some (.int .i64 (ns.size : Int))) none none).run Tryd.prog W = .ok (.string y) W) ∧ (x.toList == ns.toList) = c) ∧
      (if ns.size ≤ (strOfNums wd).size ∧ c = true then rfl_ (fldN wd (11 - j)) = .tuple #[.int .i64 ((j : Int) + 1), .string y] else fldN wd (11 - j) = fldN wd (11 - (j + 1)))) := fun j hj => by
    have h0 := fldN_at wd j hj
    have hnl := nm_len ((j : Int) + 1)
    have hns : (strOfNums (nmL ((j : Int) + 1) ++ [61])).size = (nmL ((j : Int) + 1)).length + 1 := by rw [strOf_size]; simp
    refine ⟨strOfNums (nmL ((j : Int) + 1) ++ [61]), strOfNums (wd.take ((nmL ((j : Int) + 1)).length + 1)), strOfNums (wd.drop ((nmL ((j : Int) + 1)).length + 1)), decide (wd.take ((nmL ((j : Int) + 1)).length + 1) = nmL ((j : Int) + 1) ++ [61]), fun W => rname _ (by omega) (by omega) W, by omega, fun hle => ⟨fun W => ?_, fun W => ?_, ?_⟩, ?_⟩
    · rw [slTo _ _ hle, strOf_extract, hns]; simp
    · rw [slFrom _ _ hle, strOf_extract, hns]
      rw [hns] at hle
      rw [hsz] at hle ⊢
      rw [List.take_of_length_le (by simp)]
    · by_cases h : wd.take ((nmL ((j : Int) + 1)).length + 1) = nmL ((j : Int) + 1) ++ [61]
      · rw [strOf_eqT h]; simp [h]
      · rw [strOf_eqF (hb.take _) (nm_byt _) h]; simp [h]
    · rw [hns, hsz]
      by_cases hp : (nmL ((j : Int) + 1) ++ [61]).isPrefixOf wd = true
      · obtain ⟨p1, p2⟩ := pre_take _ _ hp
        simp only [List.length_append, List.length_singleton] at p1 p2
        rw [if_pos ⟨p1, by simp [p2]⟩, h0, if_pos hp]
        rfl
      · have hp' : (nmL ((j : Int) + 1) ++ [61]).isPrefixOf wd = false := (Bool.not_eq_true _).mp hp
        have := pre_not _ _ hp'
        simp only [List.length_append, List.length_singleton] at this
        rw [if_neg (fun hh => this ⟨hh.1, by simpa using hh.2⟩), h0, if_neg hp]
  generalize hS : strOfNums wd = s at *
  clear hS
  go_enter Tryd.func34, Tryd.ntmps34
  go_wp2
  go_loopw [6] (fun i wr => ∃ j : Nat, r ≤ j ∧ j ≤ 11 ∧ i = .int .i64 ((j : Int) + 1) ∧ fldN wd (11 - r) = fldN wd (11 - j) ∧ Below w.heap.size w wr) (fun i _ => 12 - (intOf i).toNat)
  case atStart => exact ⟨r, Nat.le_refl _, hr, rfl, rfl, Below.refl _ _⟩
  case round =>
    rename_i Q1 K1 a1
    obtain ⟨j, hj1, hj2, rfl, hF, hbb⟩ := hrel
    have HBB := TW.hide hbb
    have HF := TW.hide hF
    clear hbb hF
    by_cases hlt : j < 11
    · obtain ⟨ns, x, y, c, hC, hn, hle, hI⟩ := HRO.out j hlt
      have HC := TW.hide hC
      have hjI : (j : Int) + 1 ≤ 11 := by omega
      clear HRO
      by_cases hsize : ns.size ≤ s.size
      · obtain ⟨hx, hy, hc⟩ := hle hsize
        have hsI : (ns.size : Int) ≤ (s.size : Int) := by omega
        have HY := TW.hide hy
        clear hle hy
        cases c with
        | true =>
          rw [if_pos ⟨hsize, rfl⟩] at hI
          have HI := TW.hide hI
          clear hI
          go_wp2_with fail
          refine (HC.out _).mono ?_
          rintro e w1 ⟨rfl, rfl⟩
          go_wp2_with fail
          refine wp_region_noPanic ?_
          refine RG.wp_region_L (fun Z => True) (fun Z => Below w.heap.size w Z) [] (by kernel_rfl) ?_
          refine RG.wpL_any fun Yf hY => ?_
          have HTf : Hid (Below w.heap.size w Yf) := by rw [hY]; exact below_drewN HBB.out 1
          clear hY
          refine RG.wpL_take (fuel := 0) (a' := ?Af) [0, 1, 2, 3, 4, 5, 6] (by kernel_rfl) (by kernel_rfl) (fun _ _ _ _ _ h => h) HTf.out (fun _ => trivial) ?rf ?_
          case rf =>
            refine RG.RunsIf.weak (v := ?_) (by rfl) (by rfl) (fun Z hT => ?_) ?_
            rotate_left
            · go_simp
              rfl
            simp only [Act.put, List.setIfInBounds_toArray, List.set_cons_zero, List.set_cons_succ, List.getElem_toArray, List.getElem_cons_zero, List.getElem_cons_succ]
            refine RG.RunsIf.weak (v := ?_) (by rfl) (by rfl) (fun Z hT => ?_) ?_
            rotate_left
            · go_simp
              rfl
            simp only [Act.put, List.setIfInBounds_toArray, List.set_cons_zero, List.set_cons_succ, List.getElem_toArray, List.getElem_cons_zero, List.getElem_cons_succ]
            refine RG.RunsIf.weak (v := ?_) (by rfl) (by rfl) (fun Z hT => ?_) ?_
            rotate_left
            · go_simp
              rfl
            simp only [Act.put, List.setIfInBounds_toArray, List.set_cons_zero, List.set_cons_succ, List.getElem_toArray, List.getElem_cons_zero, List.getElem_cons_succ]
            refine RG.RunsIf.weak (v := ?_) (by rfl) (by rfl) (fun Z hT => ?_) ?_
            rotate_left
            · go_simp
              rfl
            simp only [Act.put, List.setIfInBounds_toArray, List.set_cons_zero, List.set_cons_succ, List.getElem_toArray, List.getElem_cons_zero, List.getElem_cons_succ]
            refine RG.RunsIf.weak (v := .string y) (by rfl) (by rfl) (fun Z hT => ?_) ?_
            · have hy := HY.out Z
              go_simp
            simp only [Act.put, List.setIfInBounds_toArray, List.set_cons_zero, List.set_cons_succ, List.getElem_toArray, List.getElem_cons_zero, List.getElem_cons_succ]
            refine RG.RunsIf.weak (v := ?_) (by rfl) (by rfl) (fun Z hT => ?_) ?_
            rotate_left
            · go_simp
              rfl
            simp only [Act.put, List.setIfInBounds_toArray, List.set_cons_zero, List.set_cons_succ, List.getElem_toArray, List.getElem_cons_zero, List.getElem_cons_succ]
            refine RG.RunsIf.weak (v := ?_) (by rfl) (by rfl) (fun Z hT => ?_) ?_
            rotate_left
            · go_simp
              rfl
            simp only [Act.put, List.setIfInBounds_toArray, List.set_cons_zero, List.set_cons_succ, List.getElem_toArray, List.getElem_cons_zero, List.getElem_cons_succ]
            exact RG.RunsIf.nil
          refine RG.wpL_done (by kernel_rfl) ?_ _
          refine NoPanic.normal ?_
          go_wp2
          go_ret2
          rw [HF.out, HI.out]
          exact ⟨rfl, HTf.out⟩
        | false =>
          rw [if_neg (fun h => by cases h.2)] at hI
          have HI := TW.hide hI
          clear hI
          go_wp2_with fail
          refine (HC.out _).mono ?_
          rintro e w1 ⟨rfl, rfl⟩
          go_wp2_with fail
          go_roundw
          case rel => exact ⟨j + 1, by omega, by omega, by go_num, by rw [HF.out, HI.out], HBB.out⟩
          case measure => simp [intOf]; omega
      · rw [if_neg (fun h => hsize h.1)] at hI
        have hsI : ¬ (ns.size : Int) ≤ (s.size : Int) := by omega
        have HI := TW.hide hI
        clear hle hI
        go_wp2_with fail
        refine (HC.out _).mono ?_
        rintro e w1 ⟨rfl, rfl⟩
        go_wp2_with fail
        go_roundw
        case rel => exact ⟨j + 1, by omega, by omega, by go_num, by rw [HF.out, HI.out], HBB.out⟩
        case measure => simp [intOf]; omega
    · obtain rfl : j = 11 := by omega
      go_wp2
      go_ret2
      rw [HF.out]
      exact ⟨rfl, HBB.out⟩
end LW
end Go.Proofs.YteakoajkmcbilabDoor
