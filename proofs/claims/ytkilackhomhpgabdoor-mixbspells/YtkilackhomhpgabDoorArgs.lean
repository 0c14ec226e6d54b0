/-
  How arrays of words, and a Step, among a law's arguments are opened.
-/
import Derived.Test.YtkilackhomhpgabDoorLaid
namespace Go.Proofs.YtkilackhomhpgabDoor
open Go.ChangeShapes Go.WideShapes Go.ChangeAt Go.RowKit
set_option linter.unusedVariables false
set_option linter.unusedSimpArgs false
namespace MX
theorem okWide_array {P : Program} {w : World} {r : Reach} {base n : Nat} {t e : TypeId} {v : Value} (ht : P.underlying t = some (.array n e)) (h : Value.okWide P w r base t v) : ∃ cs, v = .agg cs ∧ cs.size = P.cellsOf t := by
  simp only [Value.okWide, ht] at h
  obtain ⟨cs, h1, h2, _⟩ := h
  exact ⟨cs, h1, h2⟩
/-- The cells of a row of words that can be read are words. -/
theorem words_of {H : Type} {enc : TypeId × Value → H} {W : World} {sp : Nat → Bool} {held : Bool} {fuel n : Nat} {t : TypeId} {cs : List Value} {x : DataW H × List MemPlace}
    (ht : Tryd.prog.underlying t = some (.array n 22)) (hc : Tryd.prog.cellsOf t = n) (h : DataW.trod enc Tryd.prog W 0 sp held fuel t cs = some x) : ∃ zs : List Int, cs = zs.map (Value.int .u64) ∧ zs.length = n ∧ Ws zs := by
  obtain ⟨xs, m, _, hx, hlen, hxs, hel⟩ := DataW.trod_array ht h
  rw [c22] at hel
  rw [hc] at hlen
  have hcell : ∀ i, i < n → ∃ z, cs[i]? = some (.int .u64 z) ∧ MX.W z := fun i hi => by
    have h1 := hel i hi
    have hi' : i < xs.length := by omega
    rw [List.getElem?_eq_getElem hi'] at h1
    obtain ⟨z, e1, _, wz⟩ := DataW.trod_int Tryd.underlying22 h1
    refine ⟨z, ?_, (bounds_u64 wz).1, by have := (bounds_u64 wz).2; omega⟩
    have := congrArg (·[0]?) e1
    simpa [List.getElem?_take, List.getElem?_drop] using this
  refine ⟨cs.map fun v => match v with | .int _ z => z | _ => 0, ?_, by rw [List.length_map, hlen], ?_⟩
  · rw [List.map_map]
    apply List.ext_getElem?
    intro j
    rcases Nat.lt_or_ge j n with hj | hj
    · obtain ⟨z, hz, _⟩ := hcell j hj
      rw [List.getElem?_map, hz]
      rfl
    · rw [List.getElem?_eq_none (by omega), List.getElem?_eq_none (by rw [List.length_map]; omega)]
  · intro y hy
    obtain ⟨v, hv, rfl⟩ := List.mem_map.1 hy
    obtain ⟨j, hj, rfl⟩ := List.mem_iff_getElem.1 hv
    obtain ⟨z, hz, wz⟩ := hcell j (by omega)
    rw [List.getElem?_eq_getElem hj] at hz
    rw [Option.some.inj hz]
    exact wz
theorem open_words16 {H : Type} {enc : TypeId × Value → H} {W : World} {r : Reach} {b0 : Nat} {v : Value} {d : DataW H} {p : List MemPlace}
    (hv : Value.okWide Tryd.prog W r b0 24 v) (h : DataW.Trod enc Tryd.prog W 0 (fun _ => true) true 24 v d p) : ∃ zs : List Int, v = .agg (K .u64 zs) ∧ zs.length = 16 ∧ Ws zs := by
  obtain ⟨cs, rfl, hsz⟩ := okWide_array Tryd.underlying24 hv
  obtain ⟨fuel, hf⟩ := h
  obtain ⟨zs, e, hl, hw⟩ := words_of Tryd.underlying24 c24 hf
  refine ⟨zs, congrArg Value.agg ?_, hl, hw⟩
  apply Array.ext'
  rw [K_toList]
  exact e
theorem open_words8 {H : Type} {enc : TypeId × Value → H} {W : World} {r : Reach} {b0 : Nat} {v : Value} {d : DataW H} {p : List MemPlace}
    (hv : Value.okWide Tryd.prog W r b0 23 v) (h : DataW.Trod enc Tryd.prog W 0 (fun _ => true) true 23 v d p) : ∃ zs : List Int, v = .agg (K .u64 zs) ∧ zs.length = 8 ∧ Ws zs := by
  obtain ⟨cs, rfl, hsz⟩ := okWide_array Tryd.underlying23 hv
  obtain ⟨fuel, hf⟩ := h
  obtain ⟨zs, e, hl, hw⟩ := words_of Tryd.underlying23 c23 hf
  refine ⟨zs, congrArg Value.agg ?_, hl, hw⟩
  apply Array.ext'
  rw [K_toList]
  exact e
end MX
end Go.Proofs.YtkilackhomhpgabDoor
