/-
  A field as it is handed in, with the room of its block.
-/
import Derived.Test.YtomdplcmbcjkfaaArgs
import Derived.Test.YtomdplcmbcjkfaaParArgs
namespace Go.Proofs.Ytomdplcmbcjkfaa
open Go.ChangeShapes Go.WideShapes Go.ChangeAt Go.RowKit
set_option linter.unusedVariables false
namespace LW
open Words
set_option maxRecDepth 100000 in
theorem open_field2 {H : Type} {enc : TypeId × Value → H} {W : World} {r : Reach} {b0 : Nat} {v : Value} {d : DataW H} {p : List MemPlace}
    (hv : Value.okWide Try.prog W r b0 28 v) (h : DataW.Trod enc Try.prog W 0 (fun _ => true) true 28 v d p) :
    ∃ (kd fld oth u : Int) (a : Option Addr) (cap : Nat) (zs : List Int) (y : DataW H), v = .agg #[.int .i64 kd, .slice a zs.length cap, .int .i64 fld, .int .i64 oth, .int .u64 u] ∧
      d = .agg [.lit (.int .i64 kd), y, .lit (.int .i64 fld), .lit (.int .i64 oth), .lit (.int .u64 u)] ∧ (Lit.int .u64 u).wf = true ∧
      zs.length ≤ cap ∧ Byt zs ∧ Row W a zs ∧ (a = none → cap = 0) ∧ zs.length ≤ maxLen ∧ ((y = .nil ∧ zs.length = 0) ∨ ∃ sp, y = .slice (lits .u8 zs) sp) := by
  obtain ⟨cs, rfl, hsz⟩ := okWide_struct Try.underlying28 hv
  obtain ⟨c0, c1, c2, c3, c4, rfl⟩ := array5 (hsz.trans cells68)
  obtain ⟨fuel, hf⟩ := h
  obtain ⟨xs, n, _, hx, hl, hlen, hg⟩ := DataW.trod_struct Try.underlying28 hf
  match xs, hlen with
  | [y0, y1, y2, y3, y4], _ =>
    have h0 := hg 0 _ rfl
    have h1 := hg 1 _ rfl
    have h2 := hg 2 _ rfl
    have h3 := hg 3 _ rfl
    have h4 := hg 4 _ rfl
    simp only [Value.cells] at h0 h1 h2 h3 h4
    replace h0 : DataW.trod enc Try.prog W 0 (fun _ => true) true n 3 [c0] = some y0 := by simpa [cells3] using h0
    replace h1 : DataW.trod enc Try.prog W 0 (fun _ => true) true n 24 [c1] = some y1 := by simpa [cells29] using h1
    replace h2 : DataW.trod enc Try.prog W 0 (fun _ => true) true n 3 [c2] = some y2 := by simpa [cells3] using h2
    replace h3 : DataW.trod enc Try.prog W 0 (fun _ => true) true n 3 [c3] = some y3 := by simpa [cells3] using h3
    replace h4 : DataW.trod enc Try.prog W 0 (fun _ => true) true n 23 [c4] = some y4 := by simpa [cells28] using h4
    obtain ⟨kd, e0, rfl, w0⟩ := DataW.trod_int Try.underlying3 h0
    obtain ⟨fld, e2, rfl, w2⟩ := DataW.trod_int Try.underlying3 h2
    obtain ⟨oth, e3, rfl, w3⟩ := DataW.trod_int Try.underlying3 h3
    obtain ⟨u, e4, rfl, w4⟩ := DataW.trod_int Try.underlying23 h4
    obtain ⟨a, cap, zs, rfl, qz, bz, rz, nz, mz, dz⟩ := open_bytes2 h1
    simp at e0 e2 e3 e4
    subst e0 e2 e3 e4
    simp only [Prod.mk.injEq] at hx
    exact ⟨kd, fld, oth, u, a, cap, zs, y1.1, rfl, by rw [hx.1]; simp, w4, qz, bz, rz, nz, mz, dz⟩
end LW
end Go.Proofs.Ytomdplcmbcjkfaa
