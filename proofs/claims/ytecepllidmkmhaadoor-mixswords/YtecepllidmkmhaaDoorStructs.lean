/-
  The cells of a Put and of a Run, the structs that the laws are handed.
-/
import Derived.Test.YtecepllidmkmhaaDoorEql
import Derived.Test.YtecepllidmkmhaaDoorOrder
namespace Go.Proofs.YtecepllidmkmhaaDoor
open Go.RowKit
set_option linter.unusedVariables false
set_option linter.unusedSimpArgs false
namespace MX
theorem exec_load_mid {P : Program} {o : Oper} {a : Act} {w : World} (ty : TypeId) (x : Operand) (ho : o.op = .load ty x) (b off : Nat) (hx : a.eval x = .pointer (some ⟨b, off, none⟩)) (cs : List Value) (d : TypeDesc)
    (hc : w.rangeAt b off cs) (hu : P.underlying ty = some d) (hd : d.isRow = true) (hi : (P.info? ty).map (·.size) = some cs.length) :
    (execOp a.eval o).run P w = .ok (.value (.agg cs.toArray)) w := by
  unfold execOp
  simp only [ho, hx, Instr.loadAt, Instr.sureAddr, Sem.run_bind, Sem.run_pure, Result.andThen_ok, run_loadVar_mid w b off ty cs d hc hu hd hi]
theorem le_of_below {B : Nat} {w w' : World} (h : Below B w w') (hB : B ≤ w.heap.size) : B ≤ w'.heap.size := Nat.le_trans hB h.size
/-- Two rows of words, and what stands behind them. -/
theorem two_rows {vs ms : List Int} {tl : List Value} {nv nm : Nat} {ty : TypeId} (hv : vs.length = nv) (hm : ms.length = nm) (Z : World) (B : Nat) (h : Z.heap[B]? = some (.cells (vs.map (Value.int .u32) ++ (ms.map (Value.int .u32) ++ tl)).toArray ty (0, 0))) :
    Z.rangeAt B 0 (vs.map (Value.int .u32)) ∧ Z.rangeAt B nv (ms.map (Value.int .u32)) ∧ ∀ i v, tl[i]? = some v → Z.cell? ⟨B, nv + nm + i, none⟩ = some v := by
  have h8 : (vs.map (Value.int .u32)).length = nv := by rw [List.length_map, hv]
  have h16 : (ms.map (Value.int .u32)).length = nm := by rw [List.length_map, hm]
  have hc : ∀ i v, (vs.map (Value.int .u32) ++ (ms.map (Value.int .u32) ++ tl))[i]? = some v → Z.cell? ⟨B, i, none⟩ = some v := fun i v hv =>
    blk_cell h (by simp only [List.getElem?_toArray]; exact hv)
  refine ⟨fun j v hj => ?_, fun j v hj => ?_, fun i v hv => hc _ _ (by rw [List.getElem?_append_right (by omega), List.getElem?_append_right (by omega), h8, h16, show nv + nm + i - nv - nm = i by omega]; exact hv)⟩
  · have hlt := (List.getElem?_eq_some_iff.1 hj).1
    rw [Nat.zero_add]
    exact hc _ _ (by rw [List.getElem?_append_left hlt]; exact hj)
  · have hlt := (List.getElem?_eq_some_iff.1 hj).1
    exact hc _ _ (by rw [List.getElem?_append_right (by omega), h8, show nv + j - nv = j by omega, List.getElem?_append_left hlt]; exact hj)
/-- The cells of a Put. -/
def putC (vs ms : List Int) (a b c d x y r : Int) : Array Value := (vs.map (Value.int .u32) ++ (ms.map (Value.int .u32) ++ [Value.int .i64 a, Value.int .i64 b, Value.int .i64 c, Value.int .i64 d, Value.int .u32 x, Value.int .u32 y, Value.int .i64 r])).toArray
theorem put_cell (vs ms : List Int) (a b c d x y r : Int) (hv : vs.length = 16) (hm : ms.length = 16) (Z : World) (B : Nat) (h : Z.heap[B]? = some (.cells (putC vs ms a b c d x y r) 42 (0, 0))) :
    Z.rangeAt B 0 (vs.map (Value.int .u32)) ∧ Z.rangeAt B 16 (ms.map (Value.int .u32)) ∧ Z.cell? ⟨B, 32, none⟩ = some (.int .i64 a) ∧ Z.cell? ⟨B, 33, none⟩ = some (.int .i64 b) ∧ Z.cell? ⟨B, 34, none⟩ = some (.int .i64 c) ∧ Z.cell? ⟨B, 35, none⟩ = some (.int .i64 d) ∧ Z.cell? ⟨B, 36, none⟩ = some (.int .u32 x) ∧ Z.cell? ⟨B, 37, none⟩ = some (.int .u32 y) ∧ Z.cell? ⟨B, 38, none⟩ = some (.int .i64 r) := by
  obtain ⟨h1, h2, h3⟩ := two_rows hv hm Z B h
  exact ⟨h1, h2, h3 0 _ rfl, h3 1 _ rfl, h3 2 _ rfl, h3 3 _ rfl, h3 4 _ rfl, h3 5 _ rfl, h3 6 _ rfl⟩
/-- The cells of a Run. -/
def runC (hs ms : List Int) (n : Int) (la no : Bool) : Array Value := (hs.map (Value.int .u32) ++ (ms.map (Value.int .u32) ++ [Value.int .u64 n, Value.bool la, Value.bool no])).toArray
theorem run_cell (hs ms : List Int) (n : Int) (la no : Bool) (hv : hs.length = 8) (hm : ms.length = 16) (Z : World) (B : Nat) (h : Z.heap[B]? = some (.cells (runC hs ms n la no) 48 (0, 0))) :
    Z.rangeAt B 0 (hs.map (Value.int .u32)) ∧ Z.rangeAt B 8 (ms.map (Value.int .u32)) ∧ Z.cell? ⟨B, 24, none⟩ = some (.int .u64 n) ∧ Z.cell? ⟨B, 25, none⟩ = some (.bool la) ∧ Z.cell? ⟨B, 26, none⟩ = some (.bool no) := by
  obtain ⟨h1, h2, h3⟩ := two_rows hv hm Z B h
  exact ⟨h1, h2, h3 0 _ rfl, h3 1 _ rfl, h3 2 _ rfl⟩
end MX
end Go.Proofs.YtecepllidmkmhaaDoor
