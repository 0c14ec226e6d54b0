/-
  What the listed tables give the walks, and how arrays of words among a law's arguments are opened.
-/
import Derived.Test.YtkgemkfajkcgcaaDoorRows
import Derived.Test.YtkgemkfajkcgcaaDoorPermL
import Derived.ProofKit
import Derived.LaidMore
import Derived.OpenShut
import Derived.Stop.Joined
import Derived.Lib.LaidTab
import Derived.Below
import Derived.ShutString
namespace Go.Proofs.YtkgemkfajkcgcaaDoor
open Go.ChangeShapes Go.WideShapes Go.ChangeAt Go.RowKit
set_option linter.unusedVariables false
set_option linter.unusedSimpArgs false
namespace LW
theorem gStp : Tryd.prog.globalNamed "quern/long.steps" = some 0 := by kernel_rfl
theorem tStp : (Tryd.prog.globals[0]?).map (·.type) = some 45 := by kernel_rfl
/-- A table of rows, by its cells. -/
theorem tab2 {H : Type} {enc : TypeId × Value → H} {P : Program} {W : World} {base : Nat} {sp : Nat → Bool} {held : Bool} {fuel : Nat} {t e e2 : TypeId} {n m : Nat} {k : IntKind} {cs : List Value} {l : List Int} {p : List MemPlace}
    (ht : P.underlying t = some (.array n e)) (he : P.underlying e = some (.array m e2)) (he2 : P.underlying e2 = some (.int k)) (h1 : P.cellsOf e2 = 1) (h2 : P.cellsOf e = m) (h3 : P.cellsOf t = n * m) (hl : l.length = n * m) (hm : 0 < m)
    (h : DataW.trod enc P W base sp held fuel t cs = some (.agg ((List.range n).map fun i => Lib.tabData k ((l.drop (i * m)).take m)), p)) : cs = l.map (Value.int k) := by
  obtain ⟨xs, f, _, hx, hlen, hxs, hel⟩ := DataW.trod_array ht h
  simp only [Prod.mk.injEq, DataW.agg.injEq] at hx
  rw [h2] at hel
  have hrow : ∀ i, i < n → (cs.drop (i * m)).take m = ((l.drop (i * m)).take m).map (Value.int k) := fun i hi => by
    have hx1 : (xs.map (·.1))[i]? = some (Lib.tabData k ((l.drop (i * m)).take m)) := by rw [← hx.1]; simp [hi]
    rw [List.getElem?_map, Option.map_eq_some_iff] at hx1
    obtain ⟨⟨d, q⟩, hy, hd⟩ := hx1
    simp only at hd
    have := hel i hi
    rw [hy, hd] at this
    exact Lib.cells_of_tab he he2 h1 h2 this
  apply List.ext_getElem?
  intro j
  rcases Nat.lt_or_ge j (n * m) with hj | hj
  · have hq : j / m < n := Nat.div_lt_of_lt_mul (by rw [Nat.mul_comm]; exact hj)
    have hr : j % m < m := Nat.mod_lt _ hm
    have e : j / m * m + j % m = j := by rw [Nat.mul_comm]; exact Nat.div_add_mod j m
    have := congrArg (·[j % m]?) (hrow (j / m) hq)
    simp only [List.getElem?_take, hr, if_true, List.getElem?_drop, List.getElem?_map, e] at this
    rw [this, List.getElem?_map]
  · rw [List.getElem?_eq_none (by omega), List.getElem?_eq_none (by rw [List.length_map]; omega)]
theorem tab_of_var {W : World} {n : String} {g : Nat} {cs : Array Value} {k : IntKind} {l : List Int} (hg : Tryd.prog.globalNamed n = some g) (hv : W.var? Tryd.prog n = some cs) (h : cs.toList = l.map (Value.int k)) : Tab W g k l := fun j v hj => by
  rw [Nat.zero_add, World.var?_cell hg hv j]
  rw [← h] at hj
  simpa using hj
theorem c5 : Tryd.prog.cellsOf 5 = 1 := by kernel_rfl
theorem c4 : Tryd.prog.cellsOf 44 = 4 := by kernel_rfl
theorem c84 : Tryd.prog.cellsOf 45 = 8 * 4 := by kernel_rfl
theorem c22 : Tryd.prog.cellsOf 22 = 1 := by kernel_rfl
theorem c16 : Tryd.prog.cellsOf 23 = 16 := by kernel_rfl
theorem dStp : (Rows.laid_quern_long_steps : DataW Unit) = .agg ((List.range 8).map fun i => Lib.tabData .u8 ((plL.drop (i * 4)).take 4)) := rfl
def laidS : List (String × DataW Unit) := [("quern/long.steps", Rows.laid_quern_long_steps)]
theorem of_laidS {W : World} (h : laidMetH Tryd.prog laidS W) : Tab W 0 .u8 plL := by
  rw [MakeChecks.laidMetH_plain _ _ _ (by kernel_rfl)] at h
  obtain ⟨ps, ⟨g1, t1, cs1, f1, p1, q1, hg1, ht1, hv1, hd1, _, _⟩, _, _⟩ := h
  obtain rfl := Option.some.inj (gStp.symm.trans hg1)
  obtain rfl := Option.some.inj (tStp.symm.trans ht1)
  rw [dStp] at hd1
  exact tab_of_var hg1 hv1 (tab2 Tryd.underlying45 Tryd.underlying44 Tryd.underlying5 c5 c4 c84 rfl (by decide) hd1)
theorem own : ownKnob Tryd.prog.godebug = none := by kernel_rfl
theorem laidOut : laidOutB Tryd.prog = true := by kernel_rfl
/-- The door's own heap meets the conditions. -/
theorem doorS (os : Os) (args : Array Value) : laidMetH Tryd.prog laidS ((World.doorLaid Tryd.prog 63 os).forCall (fun _ _ => 0) ⟨#[], args, []⟩).memory :=
  laidMetH_of_parts3 (fuel := 8) (laidMet_of_run' 8 (by kernel_rfl) (by kernel_rfl)) (by kernel_rfl) (by kernel_rfl)
theorem okWide_array {P : Program} {w : World} {r : Reach} {base n : Nat} {t e : TypeId} {v : Value} (ht : P.underlying t = some (.array n e)) (h : Value.okWide P w r base t v) : ∃ cs, v = .agg cs ∧ cs.size = P.cellsOf t := by
  simp only [Value.okWide, ht] at h
  obtain ⟨cs, h1, h2, _⟩ := h
  exact ⟨cs, h1, h2⟩
/-- The cells of a row of words that can be read are words. -/
theorem words_of {H : Type} {enc : TypeId × Value → H} {W : World} {sp : Nat → Bool} {held : Bool} {fuel n : Nat} {t : TypeId} {cs : List Value} {x : DataW H × List MemPlace}
    (ht : Tryd.prog.underlying t = some (.array n 22)) (hc : Tryd.prog.cellsOf t = n) (h : DataW.trod enc Tryd.prog W 0 sp held fuel t cs = some x) : ∃ zs : List Int, cs = zs.map (Value.int .u64) ∧ zs.length = n ∧ Ws zs := by
  obtain ⟨xs, m, _, hx, hlen, hxs, hel⟩ := DataW.trod_array ht h
  rw [c22] at hel
  rw [hc] at hlen
  have hcell : ∀ i, i < n → ∃ z, cs[i]? = some (.int .u64 z) ∧ LW.W z := fun i hi => by
    have h1 := hel i hi
    have hi' : i < xs.length := by omega
    rw [List.getElem?_eq_getElem hi'] at h1
    obtain ⟨z, e1, _, wz⟩ := DataW.trod_int Tryd.underlying22 h1
    refine ⟨z, ?_, (bounds_u64 wz).1, by have := (bounds_u64 wz).2; omega⟩
    have := congrArg (·[0]?) e1
    simpa [List.getElem?_take, List.getElem?_drop] using this
  refine ⟨cs.map fun v => match v with | .int _ z => z | _ => 0, ?_, by rw [List.length_map, hlen], ?_⟩
  · rw [List.map_map]
    apply List.ext_getElem?
    intro j
    rcases Nat.lt_or_ge j n with hj | hj
    · obtain ⟨z, hz, _⟩ := hcell j hj
      rw [List.getElem?_map, hz]
      rfl
    · rw [List.getElem?_eq_none (by omega), List.getElem?_eq_none (by rw [List.length_map]; omega)]
  · intro y hy
    obtain ⟨v, hv, rfl⟩ := List.mem_map.1 hy
    obtain ⟨j, hj, rfl⟩ := List.mem_iff_getElem.1 hv
    obtain ⟨z, hz, wz⟩ := hcell j (by omega)
    rw [List.getElem?_eq_getElem hj] at hz
    rw [Option.some.inj hz]
    exact wz
theorem open_words16 {H : Type} {enc : TypeId × Value → H} {W : World} {r : Reach} {b0 : Nat} {v : Value} {d : DataW H} {p : List MemPlace}
    (hv : Value.okWide Tryd.prog W r b0 23 v) (h : DataW.Trod enc Tryd.prog W 0 (fun _ => true) true 23 v d p) : ∃ zs : List Int, v = .agg (K .u64 zs) ∧ zs.length = 16 ∧ Ws zs := by
  obtain ⟨cs, rfl, hsz⟩ := okWide_array Tryd.underlying23 hv
  obtain ⟨fuel, hf⟩ := h
  obtain ⟨zs, e, hl, hw⟩ := words_of Tryd.underlying23 c16 hf
  refine ⟨zs, congrArg Value.agg ?_, hl, hw⟩
  apply Array.ext'
  rw [K_toList]
  exact e
end LW
end Go.Proofs.YtkgemkfajkcgcaaDoor
