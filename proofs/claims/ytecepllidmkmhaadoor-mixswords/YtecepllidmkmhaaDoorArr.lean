/-
  What the other texts stand on: arrays of words in memory, and what is kept of them.
-/
import Derived.Test.YtecepllidmkmhaaDoorMix
import Derived.Laws.Rows
import Derived.Laws.Tables
import Derived.Deep.MidRow
import Derived.Deep.RegionHeld3
import Derived.Deep.DrawnRows
import Derived.Great.Walk
namespace Go.Proofs.YtecepllidmkmhaaDoor
open Go.RowKit
set_option linter.unusedVariables false
set_option linter.unusedSimpArgs false
namespace MX
/-- The cells of an array of integers of one kind. -/
def K (k : IntKind) (vs : List Int) : Array Value := (vs.map (Value.int k)).toArray
theorem K_size (k : IntKind) (vs : List Int) : (K k vs).size = vs.length := by simp [K]
theorem K_get (k : IntKind) (vs : List Int) (i : Nat) (h : i < vs.length) : (K k vs)[i]? = some (.int k (vs.getD i 0)) := by
  simp [K, List.getD_eq_getElem?_getD, List.getElem?_eq_getElem h]
theorem K_set (k : IntKind) (vs : List Int) (i : Nat) (x : Int) : (K k vs).setIfInBounds i (.int k x) = K k (vs.set i x) := by
  simp [K]
theorem K_one (k : IntKind) (vs : List Int) : (K k vs).all (·.oneCell') = true := by
  rw [Array.all_eq_true_iff_forall_mem]
  intro v hv
  simp [K] at hv
  obtain ⟨a, _, rfl⟩ := hv
  rfl
theorem K_toList (k : IntKind) (vs : List Int) : (K k vs).toList = vs.map (Value.int k) := rfl
theorem K_inj {k : IntKind} {a b : List Int} (h : K k a = K k b) : a = b := by
  have h2 : a.map (Value.int k) = b.map (Value.int k) := by simpa [K] using h
  have hinj : ∀ x y : Int, Value.int k x = Value.int k y → x = y := fun x y e => by injection e
  exact List.map_inj_right (fun x y e => hinj x y e) |>.1 h2
theorem getD_set_same (l : List Int) (i : Nat) (x : Int) (h : i < l.length) : (l.set i x).getD i 0 = x := by
  simp [List.getD_eq_getElem?_getD, List.getElem?_set, h]
theorem getD_set_other (l : List Int) (i j : Nat) (x : Int) (h : i ≠ j) : (l.set i x).getD j 0 = l.getD j 0 := by
  simp [List.getElem?_set, h]
theorem getD_mem (l : List Int) (i : Nat) (h : i < l.length) : l.getD i 0 ∈ l := by
  rw [List.getD_eq_getElem?_getD, List.getElem?_eq_getElem h]
  exact List.getElem_mem h
/-- All of a list are words. -/
def Ws (l : List Int) : Prop := ∀ x ∈ l, W x
theorem Ws.get {l : List Int} (h : Ws l) (i : Nat) : W (l.getD i 0) := by
  rcases Nat.lt_or_ge i l.length with hi | hi
  · exact h _ (getD_mem l i hi)
  · rw [List.getD_eq_getElem?_getD, List.getElem?_eq_none hi]; exact ⟨by simp, by simp⟩
theorem Ws.set {l : List Int} (h : Ws l) {x : Int} (hx : W x) (i : Nat) : Ws (l.set i x) := fun y hy => by
  rcases List.mem_or_eq_of_mem_set hy with h' | rfl
  · exact h _ h'
  · exact hx
theorem blk_keep {w w' : World} {b : Nat} {o : Obj} (h : w.heap[b]? = some o) (hb : Below w.heap.size w w') : w'.heap[b]? = some o := by
  rw [hb.block b (Array.getElem?_eq_some_iff.1 h).1]; exact h
theorem blk_cell {w : World} {b i : Nat} {cs : Array Value} {t : TypeId} {fr : Nat × Nat} {v : Value} (h : w.heap[b]? = some (.cells cs t fr)) (hv : cs[i]? = some v) : w.cell? ⟨b, i, none⟩ = some v := by
  simp [World.cell?, h, hv]
theorem blk_lt {w : World} {b : Nat} {o : Obj} (h : w.heap[b]? = some o) : b < w.heap.size := (Array.getElem?_eq_some_iff.1 h).1
theorem blk_set {w : World} {g : Nat} {cs : Array Value} {t : TypeId} {i : Nat} {u : Value} (h : w.heap[g]? = some (.cells cs t (0, 0))) : (w.setCell ⟨g, i, none⟩ u).heap[g]? = some (.cells (cs.setIfInBounds i u) t (0, 0)) :=
  heap_setCell_same w g i cs t u h
theorem blk_other {w : World} {g p o : Nat} {u : Value} {ob : Obj} (h : w.heap[g]? = some ob) (hne : g ≠ p) : (w.setCell ⟨p, o, none⟩ u).heap[g]? = some ob := by
  rw [heap_setCell_other _ _ _ _ hne]; exact h
theorem blk_alloc {w : World} {g : Nat} {o o' : Obj} (h : w.heap[g]? = some o) : (w.alloc o').heap[g]? = some o := by
  rw [Below.heap_alloc _ _ _ (blk_lt h)]; exact h
theorem blk_cellK {w : World} {b i : Nat} {k : IntKind} {vs : List Int} {t : TypeId} {fr : Nat × Nat} (h : w.heap[b]? = some (.cells (K k vs) t fr)) (hi : i < vs.length) : w.cell? ⟨b, i, none⟩ = some (.int k (vs.getD i 0)) :=
  blk_cell h (K_get k vs i hi)
theorem blk_setK {w : World} {g : Nat} {k : IntKind} {vs : List Int} {t : TypeId} {i : Nat} {x : Int} (h : w.heap[g]? = some (.cells (K k vs) t (0, 0))) : (w.setCell ⟨g, i, none⟩ (.int k x)).heap[g]? = some (.cells (K k (vs.set i x)) t (0, 0)) := by
  rw [← K_set]; exact blk_set h
theorem blk_frozen {w : World} {b i : Nat} {cs : Array Value} {t : TypeId} (h : w.heap[b]? = some (.cells cs t (0, 0))) : w.frozen? ⟨b, i, none⟩ = false := frozen_of_row w b i cs t h
theorem below_setRow {B g : Nat} {w w' : World} {cs : Array Value} (h : Below B w w') (hg : B ≤ g) : Below B w (w'.setRow g cs) :=
  h.trans ⟨rfl, rfl, rfl, by simp, fun k hk => setRow_other _ _ _ _ (by omega)⟩
theorem below_row {B : Nat} {w w' w2 : World} (h : Below B w w') (hb : Below w'.heap.size w' w2) (hB : B ≤ w'.heap.size) : Below B w w2 := h.trans (hb.mono hB)
theorem results_row_tmp {P : Program} {fn : Func} {p q : Tmp} {ty : TypeId} (h : fn.results = #[.cell p ty, .tmp q]) (tmps : Array Value) (w : World) (g : Nat) (t : TypeId) (cs : Array Value) (fr : Nat × Nat) (d : TypeDesc) (v : Value)
    (hp : tmps.getD p undef = .pointer (some ⟨g, 0, none⟩)) (hq : tmps.getD q undef = v) (hg : w.heap[g]? = some (.cells cs t fr))
    (hu : P.underlying ty = some d) (hd : (match d with | .struct _ | .array _ _ => true | _ => false) = true) (hi : (P.info? ty).map (·.size) = some cs.size) :
    (results fn tmps).run P w = .ok (.tuple #[.agg cs, v]) w := by
  have hp' : tmps[p]?.getD undef = .pointer (some ⟨g, 0, none⟩) := by simpa using hp
  have hq' : tmps[q]?.getD undef = v := by simpa using hq
  simp [results, h, hp', hq', asAddr, run_loadVar_row w g t ty cs fr d hg hu hd hi]

theorem below_drewN {w w' : World} {B : Nat} (h : Below B w w') (n : Nat) : Below B w (w'.drewN n) := h.trans ⟨rfl, rfl, rfl, Nat.le_refl _, fun _ _ => rfl⟩
theorem blk_drewN {w : World} {b : Nat} {o : Obj} (h : w.heap[b]? = some o) (n : Nat) : (w.drewN n).heap[b]? = some o := h
/-- What the three tables hold. -/
def ivL : List Int := [1779033703, 3144134277, 1013904242, 2773480762, 1359893119, 2600822924, 528734635, 1541459225]
def ordL : List Int := [
  0, 1, 2, 3, 4, 5, 6, 7, 8, 9, 10, 11, 12, 13, 14, 15,
  14, 10, 4, 8, 9, 15, 13, 6, 1, 12, 0, 2, 11, 7, 5, 3,
  11, 8, 12, 0, 5, 2, 15, 13, 10, 14, 3, 6, 7, 1, 9, 4,
  7, 9, 3, 1, 13, 12, 11, 14, 2, 6, 5, 10, 4, 0, 15, 8,
  9, 0, 5, 7, 2, 4, 10, 15, 14, 1, 11, 12, 6, 8, 3, 13,
  2, 12, 6, 10, 0, 11, 8, 3, 4, 13, 7, 5, 15, 14, 1, 9,
  12, 5, 1, 15, 14, 13, 4, 10, 0, 7, 6, 3, 9, 2, 8, 11,
  13, 11, 7, 14, 12, 1, 3, 9, 5, 0, 15, 4, 8, 6, 2, 10,
  6, 15, 14, 9, 11, 3, 0, 8, 12, 2, 13, 7, 1, 4, 10, 5,
  10, 2, 8, 4, 7, 6, 1, 5, 15, 11, 9, 14, 3, 12, 13, 0]
def plL : List Int := [0, 4, 8, 12, 1, 5, 9, 13, 2, 6, 10, 14, 3, 7, 11, 15, 0, 5, 10, 15, 1, 6, 11, 12, 2, 7, 8, 13, 3, 4, 9, 14]
/-- In the world 'w' the cells of a block read so. -/
def Tab (w : World) (g : Nat) (k : IntKind) (l : List Int) : Prop := w.rangeAt g 0 (l.map (Value.int k))
theorem Tab.cell {w : World} {g : Nat} {k : IntKind} {l : List Int} (h : Tab w g k l) (i : Nat) (hi : i < l.length) : w.cell? ⟨g, i, none⟩ = some (.int k (l.getD i 0)) := by
  have := h i (.int k (l.getD i 0)) (by simp [List.getD_eq_getElem?_getD, List.getElem?_eq_getElem hi])
  simpa using this
theorem Tab.below {w w' : World} {g : Nat} {k : IntKind} {l : List Int} (h : Tab w g k l) (hb : Below w.heap.size w w') : Tab w' g k l := fun j v hv => by
  have := h j v hv
  rw [hb.cell (LW.lt_of_cell this)]
  exact this
theorem Tab.mid {w : World} {g : Nat} {k : IntKind} {l : List Int} (h : Tab w g k l) (o n : Nat) : w.rangeAt g o (((l.drop o).take n).map (Value.int k)) := fun j v hv => by
  have hv' : ((l.map (Value.int k)))[o + j]? = some v := by
    rw [List.map_take, List.map_drop, List.getElem?_take] at hv
    split at hv
    · rw [List.getElem?_drop] at hv; exact hv
    · cases hv
  have := h (o + j) v hv'
  simpa using this
/-- The order of a round, by its rest. -/
def ord (r : Nat) : List Int := (ordL.drop (r * 16)).take 16
theorem ord_length (r : Nat) (h : r < 10) : (ord r).length = 16 := by
  simp [ord, ordL]; omega
theorem ord_bd (r i : Nat) (h : r < 10) (hi : i < 16) : 0 ≤ (ord r).getD i 0 ∧ (ord r).getD i 0 < 16 := by
  have hall : (List.range 10).all (fun r => (List.range 16).all fun i => decide (0 ≤ (ord r).getD i 0) && decide ((ord r).getD i 0 < 16)) = true := by decide +kernel
  have h1 := List.all_eq_true.1 hall r (by simpa using h)
  have h2 := List.all_eq_true.1 h1 i (by simpa using hi)
  simpa using h2
/-- An array's element, by its place. -/
theorem run_index_cell {P : Program} (t e len : Nat) (d : TypeDesc) (cs : Array Value) (i : Nat) (v : Value) (w : World) (hu : P.underlying t = some (.array len e)) (he : P.underlying e = some d)
    (hd : d.isRow = false) (hi : (P.info? e).map (·.size) = some 1) (hlt : i < len) (hv : cs[i]? = some v) : (Instr.index t (.agg cs) (.int .i64 (i : Int))).run P w = .ok v w := by
  cases hq : P.info? e with
  | none => simp [hq] at hi
  | some j =>
    have hs : j.size = 1 := by simpa [hq] using hi
    have hagg : (isAgg e).run P w = .ok false w := by
      unfold isAgg
      rw [Sem.run_bind, run_underlying he w]
      cases d <;> simp_all [TypeDesc.isRow]
    simp [Instr.index, asIntOf, Sem.run_bind, run_underlying hu w, part, hagg, sizeOf, typeInfo, hq, hs, hlt, hv]
theorem run_index_part {P : Program} (t e len m : Nat) (d : TypeDesc) (cs : Array Value) (i : Nat) (w : World) (hu : P.underlying t = some (.array len e)) (he : P.underlying e = some d)
    (hd : d.isRow = true) (hi : (P.info? e).map (·.size) = some m) (hlt : i < len) : (Instr.index t (.agg cs) (.int .i64 (i : Int))).run P w = .ok (.agg (cs.extract (i * m) (i * m + m))) w := by
  cases hq : P.info? e with
  | none => simp [hq] at hi
  | some j =>
    have hs : j.size = m := by simpa [hq] using hi
    have hagg : (isAgg e).run P w = .ok true w := by
      unfold isAgg
      rw [Sem.run_bind, run_underlying he w]
      cases d <;> simp_all [TypeDesc.isRow]
    simp [Instr.index, asIntOf, Sem.run_bind, run_underlying hu w, part, hagg, sizeOf, typeInfo, hq, hs, hlt]
end MX
end Go.Proofs.YtecepllidmkmhaaDoor
