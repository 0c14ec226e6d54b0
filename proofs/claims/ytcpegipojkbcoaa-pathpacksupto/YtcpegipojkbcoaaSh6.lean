/-
  The law's awake: a call whose answer the document fixes; and the law on Valid.
-/
import Derived.Deep.RegionHeld3
import Derived.Test.YtcpegipojkbcoaaSh5
import Derived.Test.YtcpegipojkbcoaaTreeArgs
namespace Go.Proofs.Ytcpegipojkbcoaa
open Go.RowKit
set_option linter.unusedVariables false
set_option linter.unusedSimpArgs false
namespace LW
open Words
theorem exec_load_row {P : Program} {o : Oper} {a : Act} {w : World} (ty : TypeId) (x : Operand) (ho : o.op = .load ty x) (g : Nat) (hx : a.eval x = .pointer (some ⟨g, 0, none⟩)) (t : TypeId) (cs : Array Value) (fr : Nat × Nat) (d : TypeDesc)
    (hg : w.heap[g]? = some (.cells cs t fr)) (hu : P.underlying ty = some d) (hd : (match d with | .struct _ | .array _ _ => true | _ => false) = true) (hi : (P.info? ty).map (·.size) = some cs.size) :
    (execOp a.eval o).run P w = .ok (.value (.agg cs)) w := by
  unfold execOp
  simp only [ho, hx, Instr.loadAt, Instr.sureAddr, Sem.run_bind, Sem.run_pure, Result.andThen_ok, run_loadVar_row w g t ty cs fr d hg hu hd hi]
theorem exec_load_row' {P : Program} {o : Oper} {a : Act} {w : World} (ty : TypeId) (x : Operand) (ho : o.op = .load ty x) (g : Nat) (hx : a.eval x = .pointer (some ⟨g, 0, none⟩)) (t : TypeId) (cs : Array Value) (fr : Nat × Nat) (d : TypeDesc)
    (hg : w.heap[g]? = some (.cells cs t fr)) (hu : P.underlying ty = some d) (hd : (match d with | .struct _ | .array _ _ => true | _ => false) = true) (hi : (P.info? ty).map (·.size) = some cs.size) :
    (execOp a.eval o).run P w = .ok (.value (.agg cs)) w := exec_load_row ty x ho g hx t cs fr d hg hu hd hi
/-- A row of numbers, as it lies. -/
def UR (w : World) (a : Option Addr) (l : List Nat) : Prop := ∃ b, a = some ⟨b, 0, none⟩ ∧ b < w.heap.size ∧ ∀ i, i < l.length → w.cell? ⟨b, i, none⟩ = some (.int .u64 (l.getD i 0 : Nat))
theorem UR.below {w w' : World} {a : Option Addr} {l : List Nat} (h : UR w a l) (hb : Below w.heap.size w w') : UR w' a l := by
  obtain ⟨b, rfl, hlt, hc⟩ := h
  exact ⟨b, rfl, Nat.lt_of_lt_of_le hlt hb.size, fun i hi => (hb.cell (p := ⟨b, i, none⟩) hlt).trans (hc i hi)⟩
theorem us_get (l : List Nat) (i : Nat) (h : i < l.length) : (us l)[i]? = some (.int .u64 (l.getD i 0 : Nat)) := by
  simp [us, h]
/-- What a slice of the call's own holds. -/
theorem ur_of_own {w : World} {B : Nat} {v : Value} {x : Nat} {l : List Nat} (h : w.ownsRow B 27 1 v (x :: l).length (us (x :: l))) : ∃ a cap, v = .slice a (x :: l).length cap ∧ UR w a (x :: l) ∧ (x :: l).length ≤ maxLen := by
  rcases h.2 with ⟨_, h0⟩ | ⟨g, cap, cur, rfl, hg, hh, hn, hm, hc, ht⟩
  · simp at h0
  · refine ⟨_, cap, rfl, ⟨g, rfl, blk_lt hh, fun i hi => ?_⟩, by omega⟩
    rw [h.cellAt i (by omega), us_get _ i hi]
/-- The tree of awake. -/
def TA : Tr := ⟨1, 32, 2, 255, 4, 32, none, 0, 0, none, 0, 0, none, 0, 0⟩
theorem TA_E : lvE TA 9 = 0 := by decide +kernel
theorem TA_rows : roL TA 9 = [3, 2, 1] := by decide +kernel
end LW
end Go.Proofs.Ytcpegipojkbcoaa
