/-
  What the calls Plain (the program, the document) give.
-/
import Derived.Test.YteakoajkmcbilabDoorCheck
namespace Go.Proofs.YteakoajkmcbilabDoor
open Go.RowKit
set_option linter.unusedVariables false
namespace LW
open Words
theorem cells11 {w : World} {b : Nat} {t : TypeId} {v0 v1 v2 v3 v4 v5 v6 v7 v8 v9 v10 : Value} (h : w.heap[b]? = some (.cells #[v0, v1, v2, v3, v4, v5, v6, v7, v8, v9, v10] t (0, 0))) :
    w.cell? ⟨b, 0, none⟩ = some v0 ∧ w.cell? ⟨b, 1, none⟩ = some v1 ∧ w.cell? ⟨b, 2, none⟩ = some v2 ∧ w.cell? ⟨b, 3, none⟩ = some v3 ∧ w.cell? ⟨b, 4, none⟩ = some v4 ∧ w.cell? ⟨b, 5, none⟩ = some v5 ∧ w.cell? ⟨b, 6, none⟩ = some v6 ∧ w.cell? ⟨b, 7, none⟩ = some v7 ∧ w.cell? ⟨b, 8, none⟩ = some v8 ∧ w.cell? ⟨b, 9, none⟩ = some v9 ∧ w.cell? ⟨b, 10, none⟩ = some v10 ∧ w.frozen? ⟨b, 0, none⟩ = false ∧ w.frozen? ⟨b, 1, none⟩ = false ∧ w.frozen? ⟨b, 2, none⟩ = false ∧ w.frozen? ⟨b, 3, none⟩ = false ∧ w.frozen? ⟨b, 4, none⟩ = false ∧ w.frozen? ⟨b, 5, none⟩ = false ∧ w.frozen? ⟨b, 6, none⟩ = false ∧ w.frozen? ⟨b, 7, none⟩ = false ∧ w.frozen? ⟨b, 8, none⟩ = false ∧ w.frozen? ⟨b, 9, none⟩ = false ∧ w.frozen? ⟨b, 10, none⟩ = false := by
  simp [World.cell?, World.frozen?, h]
theorem results_row_tmp {P : Program} {fn : Func} {p q : Tmp} {ty : TypeId} (h : fn.results = #[.cell p ty, .tmp q]) (tmps : Array Value) (w : World) (g : Nat) (t : TypeId) (cs : Array Value) (fr : Nat × Nat) (d : TypeDesc) (v : Value)
    (hp : tmps.getD p undef = .pointer (some ⟨g, 0, none⟩)) (hq : tmps.getD q undef = v) (hg : w.heap[g]? = some (.cells cs t fr))
    (hu : P.underlying ty = some d) (hd : (match d with | .struct _ | .array _ _ => true | _ => false) = true) (hi : (P.info? ty).map (·.size) = some cs.size) :
    (results fn tmps).run P w = .ok (.tuple #[.agg cs, v]) w := by
  have hp' : tmps[p]?.getD undef = .pointer (some ⟨g, 0, none⟩) := by simpa using hp
  have hq' : tmps[q]?.getD undef = v := by simpa using hq
  simp [results, h, hp', hq', asAddr, run_loadVar_row w g t ty cs fr d hg hu hd hi]
theorem blk_set11 {w : World} {g : Nat} {t : TypeId} {u0 u1 u2 u3 u4 u5 u6 u7 u8 u9 u10 v0 v1 v2 v3 v4 v5 v6 v7 v8 v9 v10 : Value} (h : w.heap[g]? = some (.cells #[u0, u1, u2, u3, u4, u5, u6, u7, u8, u9, u10] t (0, 0))) :
    ((((((((((((w.setCell ⟨g, 0, none⟩ v0).setCell ⟨g, 1, none⟩ v1).setCell ⟨g, 2, none⟩ v2).setCell ⟨g, 3, none⟩ v3).setCell ⟨g, 4, none⟩ v4).setCell ⟨g, 5, none⟩ v5).setCell ⟨g, 6, none⟩ v6).setCell ⟨g, 7, none⟩ v7).setCell ⟨g, 8, none⟩ v8).setCell ⟨g, 9, none⟩ v9).setCell ⟨g, 10, none⟩ v10)).heap[g]? = some (.cells #[v0, v1, v2, v3, v4, v5, v6, v7, v8, v9, v10] t (0, 0)) := by
  have e0 := blk_set (i := 0) (u := v0) h
  have e1 := blk_set (i := 1) (u := v1) e0
  have e2 := blk_set (i := 2) (u := v2) e1
  have e3 := blk_set (i := 3) (u := v3) e2
  have e4 := blk_set (i := 4) (u := v4) e3
  have e5 := blk_set (i := 5) (u := v5) e4
  have e6 := blk_set (i := 6) (u := v6) e5
  have e7 := blk_set (i := 7) (u := v7) e6
  have e8 := blk_set (i := 8) (u := v8) e7
  have e9 := blk_set (i := 9) (u := v9) e8
  have e10 := blk_set (i := 10) (u := v10) e9
  simpa using e10
theorem below_set11 {B g : Nat} {w w' : World} {v0 v1 v2 v3 v4 v5 v6 v7 v8 v9 v10 : Value} (h : Below B w w') (hg : B ≤ g) : Below B w ((((((((((((w'.setCell ⟨g, 0, none⟩ v0).setCell ⟨g, 1, none⟩ v1).setCell ⟨g, 2, none⟩ v2).setCell ⟨g, 3, none⟩ v3).setCell ⟨g, 4, none⟩ v4).setCell ⟨g, 5, none⟩ v5).setCell ⟨g, 6, none⟩ v6).setCell ⟨g, 7, none⟩ v7).setCell ⟨g, 8, none⟩ v8).setCell ⟨g, 9, none⟩ v9).setCell ⟨g, 10, none⟩ v10)) :=
  (((((((((((h.setCell hg _).setCell hg _).setCell hg _).setCell hg _).setCell hg _).setCell hg _).setCell hg _).setCell hg _).setCell hg _).setCell hg _).setCell hg _)
theorem below_row {B : Nat} {w w' w2 : World} (h : Below B w w') (hb : Below w'.heap.size w' w2) (hB : B ≤ w'.heap.size) : Below B w w2 := h.trans (hb.mono hB)
set_option maxHeartbeats 1000000 in
theorem plain (kd d k : Int) (w : World) (E : Int)
    (H : Hid (∀ W : World, Calls Tryd.prog 13 #[.int .i64 kd, .agg (pc d k 1 1 0 0 0 0 0 (.slice none 0 0) (.slice none 0 0))] W fun e w' => e = .returned (.int .i64 E) ∧ Below W.heap.size W w')) :
    Calls Tryd.prog 57 #[.int .i64 kd, .int .i64 d, .int .i64 k] w fun e w' => e = .returned (.tuple #[.agg (if E = 0 then pc d k 1 1 0 0 0 0 0 (.slice none 0 0) (.slice none 0 0) else pc 0 0 0 0 0 0 0 0 0 (.slice none 0 0) (.slice none 0 0)), .int .i64 E]) ∧ Below w.heap.size w w' := by
  unfold pc at *
  by_cases hE : E = 0
  · subst hE
    go_enter Tryd.func57, Tryd.ntmps57
    go_wp2_with fail
    refine (H.out _).mono ?_
    rintro e w1 ⟨rfl, hb⟩
    have n0 := blk_keep (blk_alloc (heap_alloc_new w _)) hb
    have n1 := blk_keep (heap_alloc_new _ _) hb
    obtain ⟨c0, c1, c2, c3, c4, c5, c6, c7, c8, c9, c10, f0, f1, f2, f3, f4, f5, f6, f7, f8, f9, f10⟩ := cells11 n0
    rw [show (w.alloc (.cells #[.int .i64 0, .int .i64 0, .int .i64 0, .int .i64 0, .int .u32 0, .int .u64 0, .int .u32 0, .int .i64 0, .int .i64 0, .slice none 0 0, .slice none 0 0] 26)).heap.size = w.heap.size + 1 by simp] at n1
    obtain ⟨g0, g1, g2, g3, g4, g5, g6, g7, g8, g9, g10, z0, z1, z2, z3, z4, z5, z6, z7, z8, z9, z10⟩ := cells11 n1
    have hs := hb.size
    simp at hs
    have hs1 : w.heap.size < w1.heap.size := by omega
    have hs2 : w.heap.size + 1 < w1.heap.size := by omega
    have HN := TW.hide n0
    have HB : Hid (Below w.heap.size w w1) := below_row (((Below.refl _ _).alloc (Nat.le_refl _) _).alloc (by simp) _) hb (by simp; omega)
    clear hb n0 n1 hs
    go_wp2_with fail
    refine bodyPost_ret (v := .tuple #[.agg #[.int .i64 d, .int .i64 k, .int .i64 1, .int .i64 1, .int .u32 0, .int .u64 0, .int .u32 0, .int .i64 0, .int .i64 0, .slice none 0 0, .slice none 0 0], .int .i64 0]) (results_row_tmp (P := Tryd.prog) Tryd.results57 _ _ w.heap.size 26 _ (0, 0) _ _ rfl rfl (blk_set11 HN.out) Tryd.underlying26 rfl (by kernel_rfl)) rfl ⟨rfl, ?_⟩
    exact below_set11 HB.out (Nat.le_refl _)
  · have hE' : (E != 0) = true := by simp [hE]
    rw [if_neg hE]
    go_enter Tryd.func57, Tryd.ntmps57
    go_wp2_with fail
    refine (H.out _).mono ?_
    rintro e w1 ⟨rfl, hb⟩
    have n0 := blk_keep (blk_alloc (heap_alloc_new w _)) hb
    obtain ⟨c0, c1, c2, c3, c4, c5, c6, c7, c8, c9, c10, f0, f1, f2, f3, f4, f5, f6, f7, f8, f9, f10⟩ := cells11 n0
    have hs := hb.size
    simp at hs
    have hs1 : w.heap.size < w1.heap.size := by omega
    have HN := TW.hide n0
    have HB : Hid (Below w.heap.size w w1) := below_row (((Below.refl _ _).alloc (Nat.le_refl _) _).alloc (by simp) _) hb (by simp; omega)
    clear hb n0 hs
    go_wp2_with fail
    refine bodyPost_ret (v := .tuple #[.agg #[.int .i64 0, .int .i64 0, .int .i64 0, .int .i64 0, .int .u32 0, .int .u64 0, .int .u32 0, .int .i64 0, .int .i64 0, .slice none 0 0, .slice none 0 0], .int .i64 E]) (results_row_tmp (P := Tryd.prog) Tryd.results57 _ _ w.heap.size 26 _ (0, 0) _ _ rfl rfl (blk_set11 HN.out) Tryd.underlying26 rfl (by kernel_rfl)) rfl ⟨rfl, ?_⟩
    exact below_set11 HB.out (Nat.le_refl _)
set_option maxHeartbeats 1000000 in
theorem rplain (kd d k : Int) (w : World) (E : Int)
    (H : Hid (∀ W : World, Calls Tryd.prog 60 #[.int .i64 kd, .agg (pc d k 1 1 0 0 0 0 0 (.slice none 0 0) (.slice none 0 0))] W fun e w' => e = .returned (.int .i64 E) ∧ Below W.heap.size W w')) :
    Calls Tryd.prog 33 #[.int .i64 kd, .int .i64 d, .int .i64 k] w fun e w' => e = .returned (.tuple #[.agg (if E = 0 then pc d k 1 1 0 0 0 0 0 (.slice none 0 0) (.slice none 0 0) else pc 0 0 0 0 0 0 0 0 0 (.slice none 0 0) (.slice none 0 0)), .int .i64 E]) ∧ Below w.heap.size w w' := by
  unfold pc at *
  by_cases hE : E = 0
  · subst hE
    go_enter Tryd.func33, Tryd.ntmps33
    go_wp2_with fail
    refine (H.out _).mono ?_
    rintro e w1 ⟨rfl, hb⟩
    have n0 := blk_keep (blk_alloc (heap_alloc_new w _)) hb
    have n1 := blk_keep (heap_alloc_new _ _) hb
    obtain ⟨c0, c1, c2, c3, c4, c5, c6, c7, c8, c9, c10, f0, f1, f2, f3, f4, f5, f6, f7, f8, f9, f10⟩ := cells11 n0
    rw [show (w.alloc (.cells #[.int .i64 0, .int .i64 0, .int .i64 0, .int .i64 0, .int .u32 0, .int .u64 0, .int .u32 0, .int .i64 0, .int .i64 0, .slice none 0 0, .slice none 0 0] 26)).heap.size = w.heap.size + 1 by simp] at n1
    obtain ⟨g0, g1, g2, g3, g4, g5, g6, g7, g8, g9, g10, z0, z1, z2, z3, z4, z5, z6, z7, z8, z9, z10⟩ := cells11 n1
    have hs := hb.size
    simp at hs
    have hs1 : w.heap.size < w1.heap.size := by omega
    have hs2 : w.heap.size + 1 < w1.heap.size := by omega
    have HN := TW.hide n0
    have HB : Hid (Below w.heap.size w w1) := below_row (((Below.refl _ _).alloc (Nat.le_refl _) _).alloc (by simp) _) hb (by simp; omega)
    clear hb n0 n1 hs
    go_wp2_with fail
    refine bodyPost_ret (v := .tuple #[.agg #[.int .i64 d, .int .i64 k, .int .i64 1, .int .i64 1, .int .u32 0, .int .u64 0, .int .u32 0, .int .i64 0, .int .i64 0, .slice none 0 0, .slice none 0 0], .int .i64 0]) (results_row_tmp (P := Tryd.prog) Tryd.results33 _ _ w.heap.size 26 _ (0, 0) _ _ rfl rfl (blk_set11 HN.out) Tryd.underlying26 rfl (by kernel_rfl)) rfl ⟨rfl, ?_⟩
    exact below_set11 HB.out (Nat.le_refl _)
  · have hE' : (E != 0) = true := by simp [hE]
    rw [if_neg hE]
    go_enter Tryd.func33, Tryd.ntmps33
    go_wp2_with fail
    refine (H.out _).mono ?_
    rintro e w1 ⟨rfl, hb⟩
    have n0 := blk_keep (blk_alloc (heap_alloc_new w _)) hb
    obtain ⟨c0, c1, c2, c3, c4, c5, c6, c7, c8, c9, c10, f0, f1, f2, f3, f4, f5, f6, f7, f8, f9, f10⟩ := cells11 n0
    have hs := hb.size
    simp at hs
    have hs1 : w.heap.size < w1.heap.size := by omega
    have HN := TW.hide n0
    have HB : Hid (Below w.heap.size w w1) := below_row (((Below.refl _ _).alloc (Nat.le_refl _) _).alloc (by simp) _) hb (by simp; omega)
    clear hb n0 hs
    go_wp2_with fail
    refine bodyPost_ret (v := .tuple #[.agg #[.int .i64 0, .int .i64 0, .int .i64 0, .int .i64 0, .int .u32 0, .int .u64 0, .int .u32 0, .int .i64 0, .int .i64 0, .slice none 0 0, .slice none 0 0], .int .i64 E]) (results_row_tmp (P := Tryd.prog) Tryd.results33 _ _ w.heap.size 26 _ (0, 0) _ _ rfl rfl (blk_set11 HN.out) Tryd.underlying26 rfl (by kernel_rfl)) rfl ⟨rfl, ?_⟩
    exact below_set11 HB.out (Nat.le_refl _)
end LW
end Go.Proofs.YteakoajkmcbilabDoor
