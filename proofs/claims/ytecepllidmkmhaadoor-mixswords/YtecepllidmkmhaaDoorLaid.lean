/-
  What the listed tables give the walks, and how arrays of words among a law's arguments are opened.
-/
import Derived.Test.YtecepllidmkmhaaDoorRows
import Derived.Test.YtecepllidmkmhaaDoorArr
import Derived.ProofKit
import Derived.LaidMore
import Derived.OpenShut
import Derived.Stop.Joined
import Derived.Lib.LaidTab
import Derived.Below
import Derived.ShutString
namespace Go.Proofs.YtecepllidmkmhaaDoor
open Go.ChangeShapes Go.WideShapes Go.ChangeAt Go.RowKit
set_option linter.unusedVariables false
set_option linter.unusedSimpArgs false
namespace MX
theorem gIv : Tryd.prog.globalNamed "quern/mixs.iv" = some 0 := by kernel_rfl
theorem gOrd : Tryd.prog.globalNamed "quern/mixb.orders" = some 1 := by kernel_rfl
theorem tIv : (Tryd.prog.globals[0]?).map (·.type) = some 24 := by kernel_rfl
theorem tOrd : (Tryd.prog.globals[1]?).map (·.type) = some 87 := by kernel_rfl
/-- A table of rows, by its cells. -/
theorem tab2 {H : Type} {enc : TypeId × Value → H} {P : Program} {W : World} {base : Nat} {sp : Nat → Bool} {held : Bool} {fuel : Nat} {t e e2 : TypeId} {n m : Nat} {k : IntKind} {cs : List Value} {l : List Int} {p : List MemPlace}
    (ht : P.underlying t = some (.array n e)) (he : P.underlying e = some (.array m e2)) (he2 : P.underlying e2 = some (.int k)) (h1 : P.cellsOf e2 = 1) (h2 : P.cellsOf e = m) (h3 : P.cellsOf t = n * m) (hl : l.length = n * m) (hm : 0 < m)
    (h : DataW.trod enc P W base sp held fuel t cs = some (.agg ((List.range n).map fun i => Lib.tabData k ((l.drop (i * m)).take m)), p)) : cs = l.map (Value.int k) := by
  obtain ⟨xs, f, _, hx, hlen, hxs, hel⟩ := DataW.trod_array ht h
  simp only [Prod.mk.injEq, DataW.agg.injEq] at hx
  rw [h2] at hel
  have hrow : ∀ i, i < n → (cs.drop (i * m)).take m = ((l.drop (i * m)).take m).map (Value.int k) := fun i hi => by
    have hx1 : (xs.map (·.1))[i]? = some (Lib.tabData k ((l.drop (i * m)).take m)) := by rw [← hx.1]; simp [hi]
    rw [List.getElem?_map, Option.map_eq_some_iff] at hx1
    obtain ⟨⟨d, q⟩, hy, hd⟩ := hx1
    simp only at hd
    have := hel i hi
    rw [hy, hd] at this
    exact Lib.cells_of_tab he he2 h1 h2 this
  apply List.ext_getElem?
  intro j
  rcases Nat.lt_or_ge j (n * m) with hj | hj
  · have hq : j / m < n := Nat.div_lt_of_lt_mul (by rw [Nat.mul_comm]; exact hj)
    have hr : j % m < m := Nat.mod_lt _ hm
    have e : j / m * m + j % m = j := by rw [Nat.mul_comm]; exact Nat.div_add_mod j m
    have := congrArg (·[j % m]?) (hrow (j / m) hq)
    simp only [List.getElem?_take, hr, if_true, List.getElem?_drop, List.getElem?_map, e] at this
    rw [this, List.getElem?_map]
  · rw [List.getElem?_eq_none (by omega), List.getElem?_eq_none (by rw [List.length_map]; omega)]
theorem tab_of_var {W : World} {n : String} {g : Nat} {cs : Array Value} {k : IntKind} {l : List Int} (hg : Tryd.prog.globalNamed n = some g) (hv : W.var? Tryd.prog n = some cs) (h : cs.toList = l.map (Value.int k)) : Tab W g k l := fun j v hj => by
  rw [Nat.zero_add, World.var?_cell hg hv j]
  rw [← h] at hj
  simpa using hj
theorem c5 : Tryd.prog.cellsOf 5 = 1 := by kernel_rfl
theorem cW : Tryd.prog.cellsOf 23 = 1 := by kernel_rfl
theorem c8 : Tryd.prog.cellsOf 24 = 8 := by kernel_rfl
theorem c16 : Tryd.prog.cellsOf 26 = 16 := by kernel_rfl
theorem cO : Tryd.prog.cellsOf 86 = 16 := by kernel_rfl
theorem cOO : Tryd.prog.cellsOf 87 = 10 * 16 := by kernel_rfl
theorem dIv : (Rows.laid_quern_mixs_iv : DataW Unit) = Lib.tabData .u32 ivL := rfl
theorem dOrd : (Rows.laid_quern_mixb_orders : DataW Unit) = .agg ((List.range 10).map fun i => Lib.tabData .u8 ((ordL.drop (i * 16)).take 16)) := rfl
def laidI : List (String × DataW Unit) := [("quern/mixs.iv", Rows.laid_quern_mixs_iv)]
def laidO : List (String × DataW Unit) := [("quern/mixb.orders", Rows.laid_quern_mixb_orders)]
def laidOI : List (String × DataW Unit) := [("quern/mixb.orders", Rows.laid_quern_mixb_orders), ("quern/mixs.iv", Rows.laid_quern_mixs_iv)]
theorem of_laidI {W : World} (h : laidMetH Tryd.prog laidI W) : Tab W 0 .u32 ivL := by
  rw [MakeChecks.laidMetH_plain _ _ _ (by kernel_rfl)] at h
  obtain ⟨ps, ⟨g0, t0, cs0, f0, p0, q0, hg0, ht0, hv0, hd0, _, _⟩, _, _⟩ := h
  obtain rfl := Option.some.inj (gIv.symm.trans hg0)
  obtain rfl := Option.some.inj (tIv.symm.trans ht0)
  rw [dIv] at hd0
  exact tab_of_var hg0 hv0 (Lib.cells_of_tab Tryd.underlying24 Tryd.underlying23 cW c8 hd0)
theorem of_laidO {W : World} (h : laidMetH Tryd.prog laidO W) : Tab W 1 .u8 ordL := by
  rw [MakeChecks.laidMetH_plain _ _ _ (by kernel_rfl)] at h
  obtain ⟨ps, ⟨g1, t1, cs1, f1, p1, q1, hg1, ht1, hv1, hd1, _, _⟩, _, _⟩ := h
  obtain rfl := Option.some.inj (gOrd.symm.trans hg1)
  obtain rfl := Option.some.inj (tOrd.symm.trans ht1)
  rw [dOrd] at hd1
  exact tab_of_var hg1 hv1 (tab2 Tryd.underlying87 Tryd.underlying86 Tryd.underlying5 c5 cO cOO rfl (by decide) hd1)
theorem of_laidOI {W : World} (h : laidMetH Tryd.prog laidOI W) : Tab W 1 .u8 ordL ∧ Tab W 0 .u32 ivL := by
  rw [MakeChecks.laidMetH_plain _ _ _ (by kernel_rfl)] at h
  obtain ⟨ps, ⟨g1, t1, cs1, f1, p1, q1, hg1, ht1, hv1, hd1, ⟨g0, t0, cs0, f0, p0, q0, hg0, ht0, hv0, hd0, _, _⟩, _⟩, _, _⟩ := h
  obtain rfl := Option.some.inj (gIv.symm.trans hg0)
  obtain rfl := Option.some.inj (gOrd.symm.trans hg1)
  obtain rfl := Option.some.inj (tIv.symm.trans ht0)
  obtain rfl := Option.some.inj (tOrd.symm.trans ht1)
  rw [dIv] at hd0
  rw [dOrd] at hd1
  exact ⟨tab_of_var hg1 hv1 (tab2 Tryd.underlying87 Tryd.underlying86 Tryd.underlying5 c5 cO cOO rfl (by decide) hd1), tab_of_var hg0 hv0 (Lib.cells_of_tab Tryd.underlying24 Tryd.underlying23 cW c8 hd0)⟩
theorem own : ownKnob Tryd.prog.godebug = none := by kernel_rfl
theorem laidOut : laidOutB Tryd.prog = true := by kernel_rfl
/-- The door's own heap meets the conditions. -/
theorem doorI (os : Os) (args : Array Value) : laidMetH Tryd.prog laidI ((World.doorLaid Tryd.prog 80 os).forCall (fun _ _ => 0) ⟨#[], args, []⟩).memory :=
  laidMetH_of_parts3 (fuel := 8) (laidMet_of_run' 8 (by kernel_rfl) (by kernel_rfl)) (by kernel_rfl) (by kernel_rfl)
theorem doorO (os : Os) (args : Array Value) : laidMetH Tryd.prog laidO ((World.doorLaid Tryd.prog 80 os).forCall (fun _ _ => 0) ⟨#[], args, []⟩).memory :=
  laidMetH_of_parts3 (fuel := 8) (laidMet_of_run' 8 (by kernel_rfl) (by kernel_rfl)) (by kernel_rfl) (by kernel_rfl)
theorem doorOI (os : Os) (args : Array Value) : laidMetH Tryd.prog laidOI ((World.doorLaid Tryd.prog 80 os).forCall (fun _ _ => 0) ⟨#[], args, []⟩).memory :=
  laidMetH_of_parts3 (fuel := 8) (laidMet_of_run' 8 (by kernel_rfl) (by kernel_rfl)) (by kernel_rfl) (by kernel_rfl)
end MX
end Go.Proofs.YtecepllidmkmhaaDoor
