/-
  What the other texts stand on: arrays of words in memory, and what is kept of them.
-/
import Derived.Test.YtkgemkfajkcgcaaDoorPlain
import Derived.Test.YtkgemkfajkcgcaaDoorTurnW
import Derived.Laws.Rows
import Derived.Laws.Tables
import Derived.Deep.MidRow
import Derived.Deep.RegionHeld3
import Derived.Deep.DrawnRows
namespace Go.Proofs.YtkgemkfajkcgcaaDoor
open Go.RowKit
set_option linter.unusedVariables false
set_option linter.unusedSimpArgs false
namespace LW
/-- The cells of an array of integers of one kind. -/
def K (k : IntKind) (vs : List Int) : Array Value := (vs.map (Value.int k)).toArray
theorem K_size (k : IntKind) (vs : List Int) : (K k vs).size = vs.length := by simp [K]
theorem K_get (k : IntKind) (vs : List Int) (i : Nat) (h : i < vs.length) : (K k vs)[i]? = some (.int k (vs.getD i 0)) := by
  simp [K, List.getD_eq_getElem?_getD, List.getElem?_eq_getElem h]
theorem K_set (k : IntKind) (vs : List Int) (i : Nat) (x : Int) : (K k vs).setIfInBounds i (.int k x) = K k (vs.set i x) := by
  simp [K]
theorem K_one (k : IntKind) (vs : List Int) : (K k vs).all (·.oneCell') = true := by
  rw [Array.all_eq_true_iff_forall_mem]
  intro v hv
  simp [K] at hv
  obtain ⟨a, _, rfl⟩ := hv
  rfl
theorem K_toList (k : IntKind) (vs : List Int) : (K k vs).toList = vs.map (Value.int k) := rfl
theorem K_inj {k : IntKind} {a b : List Int} (h : K k a = K k b) : a = b := by
  have h2 : a.map (Value.int k) = b.map (Value.int k) := by simpa [K] using h
  have hinj : ∀ x y : Int, Value.int k x = Value.int k y → x = y := fun x y e => by injection e
  exact List.map_inj_right (fun x y e => hinj x y e) |>.1 h2
theorem getD_set_same (l : List Int) (i : Nat) (x : Int) (h : i < l.length) : (l.set i x).getD i 0 = x := by
  simp [List.getD_eq_getElem?_getD, List.getElem?_set, h]
theorem getD_set_other (l : List Int) (i j : Nat) (x : Int) (h : i ≠ j) : (l.set i x).getD j 0 = l.getD j 0 := by
  simp [List.getElem?_set, h]
theorem getD_mem (l : List Int) (i : Nat) (h : i < l.length) : l.getD i 0 ∈ l := by
  rw [List.getD_eq_getElem?_getD, List.getElem?_eq_getElem h]
  exact List.getElem_mem h
/-- A word of 64 bits. -/
def W (x : Int) : Prop := 0 ≤ x ∧ x < 18446744073709551616
/-- All of a list are words. -/
def Ws (l : List Int) : Prop := ∀ x ∈ l, W x
theorem Ws.get {l : List Int} (h : Ws l) (i : Nat) : W (l.getD i 0) := by
  rcases Nat.lt_or_ge i l.length with hi | hi
  · exact h _ (getD_mem l i hi)
  · rw [List.getD_eq_getElem?_getD, List.getElem?_eq_none hi]; exact ⟨by simp, by simp⟩
theorem Ws.set {l : List Int} (h : Ws l) {x : Int} (hx : W x) (i : Nat) : Ws (l.set i x) := fun y hy => by
  rcases List.mem_or_eq_of_mem_set hy with h' | rfl
  · exact h _ h'
  · exact hx
theorem blk_cellK {w : World} {b i : Nat} {k : IntKind} {vs : List Int} {t : TypeId} {fr : Nat × Nat} (h : w.heap[b]? = some (.cells (K k vs) t fr)) (hi : i < vs.length) : w.cell? ⟨b, i, none⟩ = some (.int k (vs.getD i 0)) :=
  blk_cell h (K_get k vs i hi)
theorem blk_setK {w : World} {g : Nat} {k : IntKind} {vs : List Int} {t : TypeId} {i : Nat} {x : Int} (h : w.heap[g]? = some (.cells (K k vs) t (0, 0))) : (w.setCell ⟨g, i, none⟩ (.int k x)).heap[g]? = some (.cells (K k (vs.set i x)) t (0, 0)) := by
  rw [← K_set]; exact blk_set h
theorem blk_frozen {w : World} {b i : Nat} {cs : Array Value} {t : TypeId} (h : w.heap[b]? = some (.cells cs t (0, 0))) : w.frozen? ⟨b, i, none⟩ = false := frozen_of_row w b i cs t h
theorem blk_drewN {w : World} {b : Nat} {o : Obj} (h : w.heap[b]? = some o) (n : Nat) : (w.drewN n).heap[b]? = some o := h
/-- What the table of the steps holds. -/
def plL : List Int := [0, 4, 8, 12, 1, 5, 9, 13, 2, 6, 10, 14, 3, 7, 11, 15, 0, 5, 10, 15, 1, 6, 11, 12, 2, 7, 8, 13, 3, 4, 9, 14]
/-- In the world 'w' the cells of a block read so. -/
def Tab (w : World) (g : Nat) (k : IntKind) (l : List Int) : Prop := w.rangeAt g 0 (l.map (Value.int k))
theorem Tab.cell {w : World} {g : Nat} {k : IntKind} {l : List Int} (h : Tab w g k l) (i : Nat) (hi : i < l.length) : w.cell? ⟨g, i, none⟩ = some (.int k (l.getD i 0)) := by
  have := h i (.int k (l.getD i 0)) (by simp [List.getD_eq_getElem?_getD, List.getElem?_eq_getElem hi])
  simpa using this
theorem Tab.below {w w' : World} {g : Nat} {k : IntKind} {l : List Int} (h : Tab w g k l) (hb : Below w.heap.size w w') : Tab w' g k l := fun j v hv => by
  have := h j v hv
  rw [hb.cell (lt_of_cell this)]
  exact this
theorem Tab.mid {w : World} {g : Nat} {k : IntKind} {l : List Int} (h : Tab w g k l) (o n : Nat) : w.rangeAt g o (((l.drop o).take n).map (Value.int k)) := fun j v hv => by
  have hv' : ((l.map (Value.int k)))[o + j]? = some v := by
    rw [List.map_take, List.map_drop, List.getElem?_take] at hv
    split at hv
    · rw [List.getElem?_drop] at hv; exact hv
    · cases hv
  have := h (o + j) v hv'
  simpa using this
/-- An array's element, by its place. -/
theorem run_index_cell {P : Program} (t e len : Nat) (d : TypeDesc) (cs : Array Value) (i : Nat) (v : Value) (w : World) (hu : P.underlying t = some (.array len e)) (he : P.underlying e = some d)
    (hd : d.isRow = false) (hi : (P.info? e).map (·.size) = some 1) (hlt : i < len) (hv : cs[i]? = some v) : (Instr.index t (.agg cs) (.int .i64 (i : Int))).run P w = .ok v w := by
  cases hq : P.info? e with
  | none => simp [hq] at hi
  | some j =>
    have hs : j.size = 1 := by simpa [hq] using hi
    have hagg : (isAgg e).run P w = .ok false w := by
      unfold isAgg
      rw [Sem.run_bind, run_underlying he w]
      cases d <;> simp_all [TypeDesc.isRow]
    simp [Instr.index, asIntOf, Sem.run_bind, run_underlying hu w, part, hagg, sizeOf, typeInfo, hq, hs, hlt, hv]
theorem run_index_part {P : Program} (t e len m : Nat) (d : TypeDesc) (cs : Array Value) (i : Nat) (w : World) (hu : P.underlying t = some (.array len e)) (he : P.underlying e = some d)
    (hd : d.isRow = true) (hi : (P.info? e).map (·.size) = some m) (hlt : i < len) : (Instr.index t (.agg cs) (.int .i64 (i : Int))).run P w = .ok (.agg (cs.extract (i * m) (i * m + m))) w := by
  cases hq : P.info? e with
  | none => simp [hq] at hi
  | some j =>
    have hs : j.size = m := by simpa [hq] using hi
    have hagg : (isAgg e).run P w = .ok true w := by
      unfold isAgg
      rw [Sem.run_bind, run_underlying he w]
      cases d <;> simp_all [TypeDesc.isRow]
    simp [Instr.index, asIntOf, Sem.run_bind, run_underlying hu w, part, hagg, sizeOf, typeInfo, hq, hs, hlt]
end LW
end Go.Proofs.YtkgemkfajkcgcaaDoor
