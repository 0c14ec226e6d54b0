/-
  What the small calls of param give: the kinds' measures, a field's place, whether a number has room.
-/
import Derived.Test.YtomdplcmbcjkfaaTable
import Derived.Laws.ShiftsVarLaws
namespace Go.Proofs.Ytomdplcmbcjkfaa
open Go.RowKit
set_option linter.unusedVariables false
namespace LW
open Words
/-- The most of a kind, 0 of none. -/
def mo (k : Int) : Int := if k = 1 then 64 else if k = 2 then 32 else 0
/-- The error of a kind. -/
def ke (k : Int) : Int := if k = 1 then 0 else if k = 2 then 0 else 1
def msC (k : Int) : Array Value := #[.int .i64 (mo k), .int .i64 (mo k), .int .i64 (mo k / 4), .int .i64 (mo k / 8), .int .i64 (if k = 1 then 18 else 0), .int .i64 (if k = 1 then 14 else 0)]
theorem kinds (k : Int) : k = 1 ∨ k = 2 ∨ (k ≠ 1 ∧ k ≠ 2) := by omega

theorem measures (k : Int) (w : World) : Calls Try.prog 27 #[.int .i64 k] w fun e w' => e = .returned (.tuple #[.agg (msC k), .int .i64 (ke k)]) ∧ Below w.heap.size w w' := by
  rcases kinds k with rfl | rfl | ⟨h1, h2⟩
  · go_enter Try.func27, Try.ntmps27
    go_wp2
    refine bodyPost_ret (v := .tuple #[.agg (msC 1), .int .i64 0]) (by simp [results, Try.results27, go_sem, msC, mo]) rfl ⟨rfl, (Below.refl _ _).alloc (Nat.le_refl _) _⟩
  · go_enter Try.func27, Try.ntmps27
    go_wp2
    refine bodyPost_ret (v := .tuple #[.agg (msC 2), .int .i64 0]) (by simp [results, Try.results27, go_sem, msC, mo]) rfl ⟨rfl, (Below.refl _ _).alloc (Nat.le_refl _) _⟩
  · have e1 : msC k = #[.int .i64 0, .int .i64 0, .int .i64 0, .int .i64 0, .int .i64 0, .int .i64 0] := by simp [msC, mo, h1, h2]
    have e2 : ke k = 1 := by simp [ke, h1, h2]
    have h3 : (k == 1) = false := by simp [h1]
    have h4 : (k == 2) = false := by simp [h2]
    rw [e1, e2]
    clear e1 e2
    go_enter Try.func27, Try.ntmps27
    go_wp2
    refine bodyPost_ret (v := .tuple #[.agg #[.int .i64 0, .int .i64 0, .int .i64 0, .int .i64 0, .int .i64 0, .int .i64 0], .int .i64 1]) (by simp [results, Try.results27, go_sem]) rfl ⟨rfl, (Below.refl _ _).alloc (Nat.le_refl _) _⟩

theorem size (k : Int) (w : World) : Calls Try.prog 20 #[.int .i64 k] w fun e w' => e = .returned (.tuple #[.int .i64 (mo k), .int .i64 (ke k)]) ∧ Below w.heap.size w w' := by
  have h := fun W => measures k W
  unfold msC at h
  generalize mo k = m at *
  generalize ke k = ee at *
  generalize (if k = 1 then (18 : Int) else 0) = i1 at *
  generalize (if k = 1 then (14 : Int) else 0) = i2 at *
  generalize m / 4 = m4 at *
  generalize m / 8 = m8 at *
  have H := TW.hide h
  clear h
  go_enter Try.func20, Try.ntmps20
  go_wp2_with fail
  refine (H.out _).mono ?_
  rintro e w1 ⟨rfl, hb⟩
  have HB := TW.hide hb
  clear hb
  go_wp2_with fail
  go_ret2
  exact ⟨rfl, HB.out.alloc HB.out.size _⟩
theorem rmost (k : Int) (w : World) : Calls Try.prog 36 #[.int .i64 k] w fun e w' => e = .returned (.int .i64 (mo k)) ∧ w = w' := by
  rcases kinds k with rfl | rfl | ⟨h1, h2⟩
  · go_enter Try.func36, Try.ntmps36
    go_wp2
    go_ret
    exact ⟨rfl, rfl⟩
  · go_enter Try.func36, Try.ntmps36
    go_wp2
    go_ret
    exact ⟨rfl, rfl⟩
  · have e1 : mo k = 0 := by simp [mo, h1, h2]
    have h3 : (k == 1) = false := by simp [h1]
    have h4 : (k == 2) = false := by simp [h2]
    rw [e1]
    go_enter Try.func36, Try.ntmps36
    go_wp2
    go_ret
    exact ⟨rfl, rfl⟩
theorem rsize (k : Int) (w : World) : Calls Try.prog 33 #[.int .i64 k] w fun e w' => e = .returned (.int .i64 (mo k)) ∧ w = w' := by
  have H := TW.hide (fun W => rmost k W)
  generalize mo k = m at *
  go_enter Try.func33, Try.ntmps33
  go_wp2_with fail
  refine (H.out _).mono ?_
  rintro e w1 ⟨rfl, rfl⟩
  go_wp2_with fail
  go_ret
  exact ⟨rfl, rfl⟩
theorem outside (n f t : Int) (w : World) : Calls Try.prog 42 #[.int .i64 n, .int .i64 f, .int .i64 t] w fun e w' => e = .returned (.bool (decide (n < f) || decide (t < n))) ∧ w = w' := by
  by_cases h : n < f
  · go_enter Try.func42, Try.ntmps42
    go_wp2
    go_ret
    exact ⟨by simp [h], rfl⟩
  · go_enter Try.func42, Try.ntmps42
    go_wp2
    go_ret
    exact ⟨by simp; omega, rfl⟩
/-- Where a field stands. -/
def rAt (k f : Int) : Int := if f ≤ 4 then f - 1 else if f = 5 then 4 else if f = 6 then 8 else if f = 7 then 12 else if f = 8 then (if k = 2 then 14 else 16) else if f = 9 then (if k = 2 then 15 else 17) else if f = 10 then (if k = 2 then 16 else 32) else if k = 2 then 24 else 48
/-- How many bytes it has. -/
def rSz (k f : Int) : Int := if f ≤ 4 then 1 else if f = 5 then 4 else if f = 6 then (if k = 2 then 6 else 8) else if f = 7 then (if k = 2 then 2 else 4) else if f ≤ 9 then 1 else if k = 2 then 8 else 16
theorem fieldCases (f : Int) (h1 : 1 ≤ f) (h2 : f ≤ 11) : f = 1 ∨ f = 2 ∨ f = 3 ∨ f = 4 ∨ f = 5 ∨ f = 6 ∨ f = 7 ∨ f = 8 ∨ f = 9 ∨ f = 10 ∨ f = 11 := by omega
def nmOf (f : Int) : ByteArray := if f = 1 then { data := #[100, 105, 103, 101, 115, 116] } else if f = 2 then { data := #[107, 101, 121] } else if f = 3 then { data := #[102, 97, 110, 111, 117, 116] } else if f = 4 then { data := #[100, 101, 112, 116, 104] } else if f = 5 then { data := #[108, 101, 97, 102] } else if f = 6 then { data := #[111, 102, 102, 115, 101, 116] } else if f = 7 then { data := #[120, 111, 102] } else if f = 8 then { data := #[110, 111, 100, 101] } else if f = 9 then { data := #[105, 110, 110, 101, 114] } else if f = 10 then { data := #[115, 97, 108, 116] } else if f = 11 then { data := #[112, 101, 114, 115, 111, 110, 97, 108] } else .empty
def erOf (f : Int) : Int := if f = 1 then 20 else if f = 2 then 8 else if f = 3 then 21 else if f = 4 then 22 else if f = 5 then 1 else if f = 6 then 23 else if f = 7 then 24 else if f = 8 then 25 else if f = 9 then 26 else if f = 10 then 27 else if f = 11 then 28 else 0
theorem rowAt (f : Int) (h1 : 1 ≤ f) (h2 : f ≤ 11) : ∀ W : World, (Instr.index 82 (.agg rowsC) (.int .i64 (f - 1))).run Try.prog W =
    .ok (.agg #[.int .i64 f, .string (nmOf f), .int .i64 (erOf f), .int .i64 (rAt 1 f), .int .i64 (rSz 1 f), .int .i64 (rAt 2 f), .int .i64 (rSz 2 f)]) W := by
  intro W
  rcases fieldCases f h1 h2 with rfl | rfl | rfl | rfl | rfl | rfl | rfl | rfl | rfl | rfl | rfl
  all_goals kernel_rfl
theorem r_not2 (k f : Int) (h : k ≠ 2) : rAt k f = rAt 1 f ∧ rSz k f = rSz 1 f := by simp [rAt, rSz, h]
theorem blk_set {w : World} {g : Nat} {cs : Array Value} {t : TypeId} {fr : Nat × Nat} {i : Nat} {u : Value} (h : w.heap[g]? = some (.cells cs t fr)) : (w.setCell ⟨g, i, none⟩ u).heap[g]? = some (.cells (cs.setIfInBounds i u) t fr) := by
  rw [setCell_eq_setRow w g i cs t fr u h]; exact setRow_heap _ _ _ _ _ _ h
theorem blk_alloc {w : World} {g : Nat} {o o' : Obj} (h : w.heap[g]? = some o) : (w.alloc o').heap[g]? = some o := by
  have hlt : g < w.heap.size := (Array.getElem?_eq_some_iff.1 h).1
  rw [Below.heap_alloc _ _ _ hlt]; exact h
theorem blk_new {w w1 : World} {o : Obj} (h : Below (w.alloc o).heap.size (w.alloc o) w1) : w1.heap[w.heap.size]? = some o := by
  rw [h.block _ (by simp)]; exact heap_alloc_new w _
theorem cell_two {w w1 : World} {a b : Value} {t : TypeId} (h : Below (w.alloc (.cells #[a, b] t)).heap.size (w.alloc (.cells #[a, b] t)) w1) :
    w1.cell? ⟨w.heap.size, 0, none⟩ = some a ∧ w1.cell? ⟨w.heap.size, 1, none⟩ = some b ∧ w1.frozen? ⟨w.heap.size, 0, none⟩ = false ∧ w1.frozen? ⟨w.heap.size, 1, none⟩ = false := by
  have hc : w1.heap[w.heap.size]? = some (.cells #[a, b] t (0, 0)) := by rw [h.block _ (by simp)]; exact heap_alloc_new w _
  simp [World.cell?, World.frozen?, hc]
set_option maxHeartbeats 1000000 in
theorem whole (f k : Int) (w : World) (h1 : 1 ≤ f) (h2 : f ≤ 11) : Calls Try.prog 24 #[.int .i64 f, .int .i64 k] w fun e w' => e = .returned (.agg #[.int .i64 (rAt k f), .int .i64 (rSz k f)]) ∧ Below w.heap.size w w' := by
  have hr := rowAt f h1 h2
  have ht := fun W => rows W
  generalize rowsC = cs at *
  generalize nmOf f = nm at *
  generalize erOf f = er at *
  have HT := TW.hide ht
  clear ht
  have hw : IntKind.i64.wrap (f - 1) = f - 1 := by rw [IntKind.wrap_i64]; omega
  by_cases hk : k = 2
  · subst hk
    generalize rAt 1 f = x1 at *
    generalize rSz 1 f = x2 at *
    generalize rAt 2 f = x3 at *
    generalize rSz 2 f = x4 at *
    go_enter Try.func24, Try.ntmps24
    go_wp2_with fail
    refine (HT.out _).mono ?_
    rintro e w1 ⟨rfl, hb⟩
    obtain ⟨hc0, hc1, hf0, hf1⟩ := cell_two hb
    have hs : w.heap.size < w1.heap.size := by have := hb.size; simp at this; omega
    have hne : w.heap.size ≠ w1.heap.size := by omega
    have hne' : w1.heap.size ≠ w.heap.size := by omega
    have HB := TW.hide hb
    have HN := TW.hide (blk_new hb)
    clear hb
    go_wp2_with fail
    refine bodyPost_ret (v := .agg #[.int .i64 x3, .int .i64 x4]) (results_cell_row (P := Try.prog) Try.results24 _ _ w.heap.size 52 _ (0, 0) _ rfl (blk_alloc (blk_set (blk_set HN.out))) Try.underlying52 rfl (by kernel_rfl)) rfl ⟨rfl, ?_⟩
    have h0 := (((Below.refl _ _).alloc (Nat.le_refl _) _).trans (HB.out.mono (by simp)))
    exact ((h0.setCell (Nat.le_refl _) _).setCell (Nat.le_refl _) _).alloc (by simp; omega) _
  · have e1 : (k == 2) = false := by simp [hk]
    rw [(r_not2 k f hk).1, (r_not2 k f hk).2]
    generalize rAt 1 f = x1 at *
    generalize rSz 1 f = x2 at *
    generalize rAt 2 f = x3 at *
    generalize rSz 2 f = x4 at *
    go_enter Try.func24, Try.ntmps24
    go_wp2_with fail
    refine (HT.out _).mono ?_
    rintro e w1 ⟨rfl, hb⟩
    obtain ⟨hc0, hc1, hf0, hf1⟩ := cell_two hb
    have hs : w.heap.size < w1.heap.size := by have := hb.size; simp at this; omega
    have hne : w.heap.size ≠ w1.heap.size := by omega
    have hne' : w1.heap.size ≠ w.heap.size := by omega
    have HB := TW.hide hb
    have HN := TW.hide (blk_new hb)
    clear hb
    go_wp2_with fail
    refine bodyPost_ret (v := .agg #[.int .i64 x1, .int .i64 x2]) (results_cell_row (P := Try.prog) Try.results24 _ _ w.heap.size 52 _ (0, 0) _ rfl (blk_alloc (blk_set (blk_set HN.out))) Try.underlying52 rfl (by kernel_rfl)) rfl ⟨rfl, ?_⟩
    have h0 := (((Below.refl _ _).alloc (Nat.le_refl _) _).trans (HB.out.mono (by simp)))
    exact ((h0.setCell (Nat.le_refl _) _).setCell (Nat.le_refl _) _).alloc (by simp; omega) _
end LW
end Go.Proofs.Ytomdplcmbcjkfaa
