/-
  A pool among a law's arguments.
-/
import Derived.Test.YtlmnllgcoikkmaaPv7
import Derived.Test.YtlmnllgcoikkmaaArgs13
namespace Go.Proofs.Ytlmnllgcoikkmaa
open Go.ChangeShapes Go.WideShapes Go.ChangeAt Go.RowKit Go.Deep
set_option linter.unusedVariables false
set_option linter.unusedSimpArgs false
namespace LW
open Mc
theorem cellsPo : Try.prog.cellsOf 23 = 2 := by kernel_rfl
theorem array2 {cs : Array Value} (h : cs.size = 2) : ∃ a b, cs = #[a, b] := by
  obtain ⟨l⟩ := cs
  match l, h with
  | [a, b], _ => exact ⟨a, b, rfl⟩
set_option maxRecDepth 100000 in
/-- A pool. -/
theorem open_pool {H : Type} {enc : TypeId × Value → H} {W : World} {r : Reach} {b0 : Nat} {v : Value} {d : DataW H} {p : List MemPlace}
    (hv : Value.okWide Try.prog W r b0 23 v) (h : DataW.Trod enc Try.prog W 0 (fun _ => true) true 23 v d p) :
    ∃ i j : Int, v = .agg #[.int .i64 i, .int .i64 j] ∧ i64 i ∧ i64 j := by
  obtain ⟨cs, rfl, hsz⟩ := okWide_struct Try.underlying23 hv
  obtain ⟨c0, c1, rfl⟩ := array2 (hsz.trans cellsPo)
  obtain ⟨fuel, hf⟩ := h
  obtain ⟨xs, n, _, hx, _, hlen, hg⟩ := DataW.trod_struct Try.underlying23 hf
  match xs, hlen with
  | [y0, y1], _ =>
    have h0 := hg 0 _ rfl
    have h1 := hg 1 _ rfl
    simp only [Value.cells] at h0 h1
    replace h0 : DataW.trod enc Try.prog W 0 (fun _ => true) true n 3 [c0] = some y0 := by simpa [cellsI1] using h0
    replace h1 : DataW.trod enc Try.prog W 0 (fun _ => true) true n 3 [c1] = some y1 := by simpa [cellsI1] using h1
    obtain ⟨z0, e0, _, w0⟩ := DataW.trod_int Try.underlying3 h0
    obtain ⟨z1, e1, _, w1⟩ := DataW.trod_int Try.underlying3 h1
    simp at e0 e1
    subst e0 e1
    exact ⟨z0, z1, rfl, bounds_i64 w0, bounds_i64 w1⟩
theorem systemsF (n a q : Int) (w : World) (hn : (Lit.int .i64 n).wf = true) (ha : i64 a) (hq : i64 q) : Calls Try.prog 3 #[.int .i64 n, .agg #[.int .i64 a, .int .i64 q]] w fun e w' => e = .returned (.bool true) ∧ Below w.heap.size w w' := systemsW n a q w
end LW
end Go.Proofs.Ytlmnllgcoikkmaa
