/-
  xof.New of a stream of Big whose length is not known, without key, salt and personal; what is left of it.
-/
import Derived.Test.YtplpplbmajiclabGreatNodeNew
import Derived.Laws.EntriesVeiled
namespace Go.Proofs.YtplpplbmajiclabGreat
open Go.RowKit
set_option linter.unusedVariables false
set_option linter.unusedSimpArgs false
namespace LW
open Words
abbrev planC (t : Int) : Array Value := #[.int .i64 1, .int .i64 64, .int .u32 4294967295, .int .u64 t, .slice none 0 0, .slice none 0 0]
theorem most1 (w : World) : Calls Tryz.prog 30 #[.int .i64 1] w fun e w' => e = .returned (.tuple #[.int .i64 64, .int .i64 0]) ∧ Below w.heap.size w w' := most 1 w
set_option maxRecDepth 100000 in
theorem codeU (w : World) : Calls Tryz.prog 31 #[.int .i64 1, .int .i64 (-1)] w fun e w' => e = .returned (.tuple #[.int .u32 4294967295, .bool true]) ∧ w = w' := by
  go_enter Tryz.func31, Tryz.ntmps31
  go_wp2
  go_ret2
  exact ⟨rfl, rfl⟩
set_option maxRecDepth 100000 in
theorem rootP (t : Int) (w : World) : Calls Tryz.prog 25 #[.agg (planC t), .int .i64 0] w fun e w' => e = .returned (.agg (pcP p0 (.slice none 0 0) (.slice none 0 0))) ∧ Below w.heap.size w w' := by
  go_enter Tryz.func25, Tryz.ntmps25
  go_wp2
  have hn := heap_alloc_new (w.alloc (.cells (planC t) 29)) (.cells #[.int .i64 64, .int .i64 0, .int .i64 1, .int .i64 1, .int .u32 0, .int .u64 0, .int .u32 4294967295, .int .i64 0, .int .i64 0, .slice none 0 0, .slice none 0 0] 56)
  have hs : (w.alloc (.cells (planC t) 29)).heap.size = w.heap.size + 1 := by simp
  rw [hs] at hn
  refine bodyPost_ret (v := .agg #[.int .i64 64, .int .i64 0, .int .i64 1, .int .i64 1, .int .u32 0, .int .u64 0, .int .u32 4294967295, .int .i64 0, .int .i64 0, .slice none 0 0, .slice none 0 0]) (results_cell_row (P := Tryz.prog) Tryz.results25 _ _ (w.heap.size + 1) 56 _ (0, 0) _ rfl hn Tryz.underlying56 rfl (by kernel_rfl)) rfl ⟨rfl, ?_⟩
  exact ((Below.refl _ _).alloc (Nat.le_refl _) _).alloc (by simp) _
theorem cells6 {w : World} {b : Nat} {t : TypeId} {v0 v1 v2 v3 v4 v5 : Value} (h : w.heap[b]? = some (.cells #[v0, v1, v2, v3, v4, v5] t (0, 0))) :
    w.cell? ⟨b, 0, none⟩ = some v0 ∧ w.cell? ⟨b, 1, none⟩ = some v1 ∧ w.cell? ⟨b, 2, none⟩ = some v2 ∧ w.cell? ⟨b, 3, none⟩ = some v3 ∧ w.cell? ⟨b, 4, none⟩ = some v4 ∧ w.cell? ⟨b, 5, none⟩ = some v5 ∧ w.frozen? ⟨b, 0, none⟩ = false ∧ w.frozen? ⟨b, 1, none⟩ = false ∧ w.frozen? ⟨b, 2, none⟩ = false ∧ w.frozen? ⟨b, 3, none⟩ = false ∧ w.frozen? ⟨b, 4, none⟩ = false ∧ w.frozen? ⟨b, 5, none⟩ = false := by
  simp [World.cell?, World.frozen?, h]
set_option maxRecDepth 100000 in
set_option maxHeartbeats 2000000 in
theorem planU (w : World) : Calls Tryz.prog 22 #[.int .i64 1, .int .i64 (-1), .int .i64 0, .slice none 0 0, .slice none 0 0] w fun e w' => e = .returned (.tuple #[.agg (planC 274877906944), .int .i64 0]) ∧ Below w.heap.size w w' := by
  have HM := TW.hide (fun W => most1 W)
  have HC := TW.hide (fun W => codeU W)
  have HR := TW.hide (fun W => rootP 274877906944 W)
  have HCK : Hid (∀ W : World, Calls Tryz.prog 32 #[.int .i64 1, .agg (pcP p0 (.slice none 0 0) (.slice none 0 0))] W fun e w' => e = .returned (.int .i64 0) ∧ Below W.heap.size W w') := fun W => by
    have h := checkP 1 p0 p0_ok none none 0 0 0 0 W
    rw [p0_ck] at h
    exact h
  have b0 := ((Below.refl w.heap.size w).alloc (Nat.le_refl _) (.cells #[.int .i64 0, .int .i64 0, .int .u32 0, .int .u64 0, .slice none 0 0, .slice none 0 0] 29))
  have n0 := heap_alloc_new w (.cells #[.int .i64 0, .int .i64 0, .int .u32 0, .int .u64 0, .slice none 0 0, .slice none 0 0] 29)
  go_enter Tryz.func22, Tryz.ntmps22
  refine wp_seq_k fun K hK => ?_
  have HK := TW.hide hK
  clear hK
  go_wp2
  refine HK.out _ _ ?_
  clear HK K
  generalize w.alloc _ = W at *
  generalize hB : w.heap.size = B at *
  have B0 := TW.hide b0
  have N0 := TW.hide n0
  clear b0 n0
  go_wp2_with fail
  refine (HM.out _).mono ?_
  rintro e w1 ⟨rfl, hb⟩
  have N1 := TW.hide (blk_keep N0.out hb)
  have B1 : Hid (Below B w w1) := below_row B0.out hb (by have := blk_lt N0.out; omega)
  clear hb
  go_wp2_with fail
  refine (HC.out _).mono ?_
  rintro e w2 ⟨rfl, rfl⟩
  go_wp2_with fail
  have M0 := TW.hide (heap_alloc_new w1 (.cells (planC 274877906944) 29))
  have N2 := TW.hide (blk_alloc (o' := .cells (planC 274877906944) 29) N1.out)
  have hlt := blk_lt N1.out
  have B2 : Hid (Below B w (w1.alloc (.cells (planC 274877906944) 29))) := B1.out.alloc (by omega) _
  clear N1 B1 N0 B0
  generalize w1.alloc _ = V at *
  generalize w1.heap.size = g at *
  refine (HR.out _).mono ?_
  rintro e w2 ⟨rfl, hb⟩
  have M1 := TW.hide (blk_keep M0.out hb)
  have N3 := TW.hide (blk_keep N2.out hb)
  have B3 : Hid (Below B w w2) := below_row B2.out hb (by have := blk_lt N2.out; omega)
  clear hb M0 N2 B2
  go_wp2_with fail
  refine (HCK.out _).mono ?_
  rintro e w3 ⟨rfl, hb⟩
  have M2 := TW.hide (blk_keep M1.out hb)
  have N4 := TW.hide (blk_keep N3.out hb)
  have B4 : Hid (Below B w w3) := below_row B3.out hb (by have := blk_lt N3.out; omega)
  clear hb M1 N3 B3
  go_wp2_with (first | (refine wpList_load_row (by rfl) 29 _ (by rfl) g (by rfl) 29 (planC 274877906944) (0, 0) _ M2.out Tryz.underlying29 rfl (by kernel_rfl) ?_) | (refine wpList_store_row (by rfl) 29 _ _ (by rfl) B (planC 274877906944) (by rfl) (by rfl) 29 _ N4.out (by kernel_rfl) (by kernel_rfl) (by kernel_rfl) ?_))
  refine bodyPost_ret (v := .tuple #[.agg (planC 274877906944), .int .i64 0]) (results_row_tmp (P := Tryz.prog) Tryz.results22 _ _ B 29 _ (0, 0) _ _ rfl rfl (setRow_heap _ _ _ _ _ _ N4.out) Tryz.underlying29 rfl (by kernel_rfl)) rfl ⟨rfl, ?_⟩
  exact below_setRow B4.out (Nat.le_refl _)
set_option maxRecDepth 100000 in
theorem cloneNil (w : World) : Calls Tryz.prog 23 #[.slice none 0 0] w fun e w' => e = .returned (.slice none 0 0) ∧ w = w' := by
  have heq := fun W : World => run_eql_slice_nil (P := Tryz.prog) W 22 5 none 0 0 Tryz.underlying22
  go_enter Tryz.func23, Tryz.ntmps23
  go_wp2
  go_ret
  exact ⟨rfl, rfl⟩
theorem streamC_7 (gn : Nat) : (((((((Tryz.zeroCells34.setIfInBounds 0 (.int .i64 1)).setIfInBounds 1 (.int .i64 64)).setIfInBounds 2 (.int .u32 4294967295)).setIfInBounds 3 (.int .u64 274877906944)).setIfInBounds 4 (.slice none 0 0)).setIfInBounds 5 (.slice none 0 0)).setIfInBounds 6 (.pointer (some ⟨gn, 0, none⟩)))[7]? = some .nilFunc := by kernel_rfl
theorem streamC_3 (gn : Nat) (f : Value) : ((((((((Tryz.zeroCells34.setIfInBounds 0 (.int .i64 1)).setIfInBounds 1 (.int .i64 64)).setIfInBounds 2 (.int .u32 4294967295)).setIfInBounds 3 (.int .u64 274877906944)).setIfInBounds 4 (.slice none 0 0)).setIfInBounds 5 (.slice none 0 0)).setIfInBounds 6 (.pointer (some ⟨gn, 0, none⟩))).setIfInBounds 7 f)[3]? = some (.int .u64 274877906944) := by kernel_rfl
theorem streamC_7f (gn : Nat) (f : Value) : ((((((((Tryz.zeroCells34.setIfInBounds 0 (.int .i64 1)).setIfInBounds 1 (.int .i64 64)).setIfInBounds 2 (.int .u32 4294967295)).setIfInBounds 3 (.int .u64 274877906944)).setIfInBounds 4 (.slice none 0 0)).setIfInBounds 5 (.slice none 0 0)).setIfInBounds 6 (.pointer (some ⟨gn, 0, none⟩))).setIfInBounds 7 f)[7]? = some f := by kernel_rfl
theorem streamC_9 (gn : Nat) (f : Value) : ((((((((Tryz.zeroCells34.setIfInBounds 0 (.int .i64 1)).setIfInBounds 1 (.int .i64 64)).setIfInBounds 2 (.int .u32 4294967295)).setIfInBounds 3 (.int .u64 274877906944)).setIfInBounds 4 (.slice none 0 0)).setIfInBounds 5 (.slice none 0 0)).setIfInBounds 6 (.pointer (some ⟨gn, 0, none⟩))).setIfInBounds 7 f)[9]? = some (.int .u64 0) := by kernel_rfl
set_option maxRecDepth 100000 in
set_option maxHeartbeats 2000000 in
theorem newU (iv : List Int) (w : World) (hiv : iv.length = 8) (ti : w.heap[2]? = some (.cells (K .u64 iv) 102 (0, 0))) :
    Calls Tryz.prog 12 #[.int .i64 1, .int .i64 (-1), .slice none 0 0, .slice none 0 0, .slice none 0 0] w fun e w' => ∃ (g : Nat) (fn : Fn) (x y : Array Value), e = .returned (.tuple #[.pointer (some ⟨g, 0, none⟩), .int .i64 0]) ∧ w'.cell? ⟨g, 7, none⟩ = some (.func fn x y) ∧ w'.cell? ⟨g, 3, none⟩ = some (.int .u64 274877906944) ∧ w'.cell? ⟨g, 9, none⟩ = some (.int .u64 0) ∧ Below w.heap.size w w' := by
  have HP := TW.hide (fun W => planU W)
  have HN := TW.hide (fun W => cloneNil W)
  have HR := TW.hide (fun W => rootP 274877906944 W)
  have HNN := TW.hide (fun W (t : W.heap[2]? = some (.cells (K .u64 iv) 102 (0, 0))) => nodeNew iv W hiv t)
  go_enter Tryz.func12, Tryz.ntmps12
  go_wp2_with fail
  refine (HP.out _).mono ?_
  rintro e w1 ⟨rfl, hb⟩
  have T1 := TW.hide (blk_keep ti hb)
  have B1 := TW.hide hb
  clear hb ti
  go_wp2_with fail
  have M0 := TW.hide (heap_alloc_new w1 (.cells (planC 274877906944) 29))
  have T2 := TW.hide (blk_alloc (o' := .cells (planC 274877906944) 29) T1.out)
  have hsz := B1.out.size
  have B2 : Hid (Below w.heap.size w (w1.alloc (.cells (planC 274877906944) 29))) := B1.out.alloc hsz _
  clear T1 B1
  generalize w1.alloc _ = V at *
  generalize w1.heap.size = g at *
  generalize hB : w.heap.size = B at *
  refine (HN.out _).mono ?_
  rintro e V1 ⟨rfl, rfl⟩
  go_wp2_with fail
  refine (HN.out _).mono ?_
  rintro e V1 ⟨rfl, rfl⟩
  obtain ⟨c0, c1, c2, c3, c4, c5, f0, f1, f2, f3, f4, f5⟩ := cells6 M0.out
  go_wp2_with fail
  have M1 : Hid (((V.setCell ⟨g, 4, none⟩ (.slice none 0 0)).setCell ⟨g, 5, none⟩ (.slice none 0 0)).heap[g]? = some (.cells (planC 274877906944) 29 (0, 0))) := blk_set (blk_set M0.out)
  have hne : 2 ≠ g := by
    intro h
    have h1 := T2.out
    rw [h, M0.out] at h1
    injection h1 with h1
    injection h1 with _ h1
    cases h1
  have T3 : Hid (((V.setCell ⟨g, 4, none⟩ (.slice none 0 0)).setCell ⟨g, 5, none⟩ (.slice none 0 0)).heap[2]? = some (.cells (K .u64 iv) 102 (0, 0))) := blk_other (blk_other T2.out hne) hne
  have B3 : Hid (Below B w ((V.setCell ⟨g, 4, none⟩ (.slice none 0 0)).setCell ⟨g, 5, none⟩ (.slice none 0 0))) := (B2.out.setCell hsz _).setCell hsz _
  clear M0 T2 B2 c0 c1 c2 c3 c4 c5 f0 f1 f2 f3 f4 f5
  generalize (V.setCell ⟨g, 4, none⟩ (.slice none 0 0)).setCell ⟨g, 5, none⟩ (.slice none 0 0) = V2 at *
  refine (HR.out _).mono ?_
  rintro e w2 ⟨rfl, hb⟩
  have M2 := TW.hide (blk_keep M1.out hb)
  have T4 := TW.hide (blk_keep T3.out hb)
  have B4 : Hid (Below B w w2) := below_row B3.out hb (by have := blk_lt M1.out; omega)
  clear hb M1 T3 B3
  go_wp2_with fail
  refine (HNN.out _ T4.out).mono ?_
  rintro e w3 ⟨gn, rfl, hb⟩
  have M3 := TW.hide (blk_keep M2.out hb)
  have B5 : Hid (Below B w w3) := below_row B4.out hb (by have := blk_lt M2.out; omega)
  have hs3 := B5.out.size
  clear hb M2 T4 B4
  obtain ⟨c0, c1, c2, c3, c4, c5, f0, f1, f2, f3, f4, f5⟩ := cells6 M3.out
  have n7 := heap_alloc_new w3 (.cells (((((((Tryz.zeroCells34.setIfInBounds 0 (.int .i64 1)).setIfInBounds 1 (.int .i64 64)).setIfInBounds 2 (.int .u32 4294967295)).setIfInBounds 3 (.int .u64 274877906944)).setIfInBounds 4 (.slice none 0 0)).setIfInBounds 5 (.slice none 0 0)).setIfInBounds 6 (.pointer (some ⟨gn, 0, none⟩))) 34)
  have c7 : (w3.alloc (.cells (((((((Tryz.zeroCells34.setIfInBounds 0 (.int .i64 1)).setIfInBounds 1 (.int .i64 64)).setIfInBounds 2 (.int .u32 4294967295)).setIfInBounds 3 (.int .u64 274877906944)).setIfInBounds 4 (.slice none 0 0)).setIfInBounds 5 (.slice none 0 0)).setIfInBounds 6 (.pointer (some ⟨gn, 0, none⟩))) 34)).cell? ⟨w3.heap.size, 7, none⟩ = some .nilFunc := blk_cell n7 (streamC_7 gn)
  have f7 : (w3.alloc (.cells (((((((Tryz.zeroCells34.setIfInBounds 0 (.int .i64 1)).setIfInBounds 1 (.int .i64 64)).setIfInBounds 2 (.int .u32 4294967295)).setIfInBounds 3 (.int .u64 274877906944)).setIfInBounds 4 (.slice none 0 0)).setIfInBounds 5 (.slice none 0 0)).setIfInBounds 6 (.pointer (some ⟨gn, 0, none⟩))) 34)).frozen? ⟨w3.heap.size, 7, none⟩ = false := blk_frozen n7
  have N7 := TW.hide n7
  have hsx : B ≤ w3.heap.size := by omega
  have B6 : Hid (Below B w (w3.alloc (.cells (((((((Tryz.zeroCells34.setIfInBounds 0 (.int .i64 1)).setIfInBounds 1 (.int .i64 64)).setIfInBounds 2 (.int .u32 4294967295)).setIfInBounds 3 (.int .u64 274877906944)).setIfInBounds 4 (.slice none 0 0)).setIfInBounds 5 (.slice none 0 0)).setIfInBounds 6 (.pointer (some ⟨gn, 0, none⟩))) 34))) := B5.out.alloc hsx _
  clear n7
  go_wp2_with fail
  go_ret2
  refine ⟨w3.heap.size, _, _, _, rfl, blk_cell (heap_alloc_new _ _) (streamC_7f gn _), blk_cell (heap_alloc_new _ _) (streamC_3 gn _), blk_cell (heap_alloc_new _ _) (streamC_9 gn _), ?_⟩
  rw [hB]
  exact B5.out.alloc hsx _
end LW
end Go.Proofs.YtplpplbmajiclabGreat
