/-
  How a Step among a law's arguments is opened.
-/
import Derived.Test.YtkilackhomhpgaaDoorArgs
import Derived.Test.YtkilackhomhpgaaDoorStepsLaw
namespace Go.Proofs.YtkilackhomhpgaaDoor
open Go.ChangeShapes Go.WideShapes Go.ChangeAt Go.RowKit
set_option linter.unusedVariables false
set_option linter.unusedSimpArgs false
namespace MX
theorem c46 : Tryd.prog.cellsOf 46 = 22 := by kernel_rfl
theorem c3 : Tryd.prog.cellsOf 3 = 1 := by kernel_rfl
theorem word_at {H : Type} {enc : TypeId × Value → H} {W : World} {sp : Nat → Bool} {held : Bool} {fuel i : Nat} {cs : List Value} {x : DataW H × List MemPlace}
    (h : DataW.trod enc Tryd.prog W 0 sp held fuel 22 ((cs.drop i).take 1) = some x) : ∃ z, cs[i]? = some (.int .u64 z) ∧ MX.W z := by
  obtain ⟨z, e1, _, wz⟩ := DataW.trod_int Tryd.underlying22 h
  refine ⟨z, ?_, (bounds_u64 wz).1, by have := (bounds_u64 wz).2; omega⟩
  have := congrArg (·[0]?) e1
  simpa [List.getElem?_take, List.getElem?_drop] using this
theorem int_at {H : Type} {enc : TypeId × Value → H} {W : World} {sp : Nat → Bool} {held : Bool} {fuel i : Nat} {cs : List Value} {x : DataW H × List MemPlace}
    (h : DataW.trod enc Tryd.prog W 0 sp held fuel 3 ((cs.drop i).take 1) = some x) : ∃ z, cs[i]? = some (.int .i64 z) := by
  obtain ⟨z, e1, _, wz⟩ := DataW.trod_int Tryd.underlying3 h
  refine ⟨z, ?_⟩
  have := congrArg (·[0]?) e1
  simpa [List.getElem?_take, List.getElem?_drop] using this
set_option maxRecDepth 100000 in
theorem open_step {H : Type} {enc : TypeId × Value → H} {W : World} {r : Reach} {b0 : Nat} {v : Value} {d : DataW H} {p : List MemPlace}
    (hv : Value.okWide Tryd.prog W r b0 46 v) (h : DataW.Trod enc Tryd.prog W 0 (fun _ => true) true 46 v d p) :
    ∃ (vs : List Int) (a b c d x y : Int), v = .agg (stepC vs a b c d x y) ∧ vs.length = 16 ∧ Ws vs ∧ MX.W x ∧ MX.W y := by
  obtain ⟨cs, rfl, hsz⟩ := okWide_struct Tryd.underlying46 hv
  rw [c46] at hsz
  obtain ⟨fuel, hf⟩ := h
  obtain ⟨xs, n, _, hx, hl, hlen, hg⟩ := DataW.trod_struct Tryd.underlying46 hf
  match xs, hlen with
  | [y0, y1, y2, y3, y4, y5, y6], _ =>
    have h0 := hg 0 _ rfl
    have h1 := hg 1 _ rfl
    have h2 := hg 2 _ rfl
    have h3 := hg 3 _ rfl
    have h4 := hg 4 _ rfl
    have h5 := hg 5 _ rfl
    have h6 := hg 6 _ rfl
    simp only [Value.cells, c31, c3, c22] at h0 h1 h2 h3 h4 h5 h6
    obtain ⟨vs, e0, hvl, hvw⟩ := words_of Tryd.underlying31 c31 h0
    obtain ⟨a, e1⟩ := int_at h1
    obtain ⟨b, e2⟩ := int_at h2
    obtain ⟨c, e3⟩ := int_at h3
    obtain ⟨d, e4⟩ := int_at h4
    obtain ⟨x, e5, wx⟩ := word_at h5
    obtain ⟨y, e6, wy⟩ := word_at h6
    refine ⟨vs, a, b, c, d, x, y, congrArg Value.agg ?_, hvl, hvw, wx, wy⟩
    apply Array.ext'
    simp only [stepC, List.toList_toArray]
    have hl2 : cs.toList.length = 22 := by rw [Array.length_toList]; exact hsz
    have e0' : cs.toList.take 16 = vs.map (Value.int .u64) := e0
    rw [← List.take_append_drop 16 cs.toList, e0']
    congr 1
    apply List.ext_getElem?
    intro i
    rw [List.getElem?_drop]
    have hi : i = 0 ∨ i = 1 ∨ i = 2 ∨ i = 3 ∨ i = 4 ∨ i = 5 ∨ 6 ≤ i := by omega
    rcases hi with rfl | rfl | rfl | rfl | rfl | rfl | hi
    · exact e1
    · exact e2
    · exact e3
    · exact e4
    · exact e5
    · exact e6
    · rw [List.getElem?_eq_none (by omega), List.getElem?_eq_none (by simpa using hi)]
end MX
end Go.Proofs.YtkilackhomhpgaaDoor
