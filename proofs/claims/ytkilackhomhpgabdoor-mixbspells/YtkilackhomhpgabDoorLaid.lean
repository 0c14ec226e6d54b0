/-
  What the listed tables give the walks, and how arrays of words among a law's arguments are opened.
-/
import Derived.Test.YtkilackhomhpgabDoorRows
import Derived.Test.YtkilackhomhpgabDoorArr
import Derived.ProofKit
import Derived.LaidMore
import Derived.OpenShut
import Derived.Stop.Joined
import Derived.Lib.LaidTab
import Derived.Below
import Derived.ShutString
namespace Go.Proofs.YtkilackhomhpgabDoor
open Go.ChangeShapes Go.WideShapes Go.ChangeAt Go.RowKit
set_option linter.unusedVariables false
set_option linter.unusedSimpArgs false
namespace MX
theorem gIv : Tryd.prog.globalNamed "quern/mixb.iv" = some 0 := by kernel_rfl
theorem gOrd : Tryd.prog.globalNamed "quern/mixb.orders" = some 1 := by kernel_rfl
theorem gPl : Tryd.prog.globalNamed "quern/mixb.places" = some 2 := by kernel_rfl
theorem tIv : (Tryd.prog.globals[0]?).map (·.type) = some 23 := by kernel_rfl
theorem tOrd : (Tryd.prog.globals[1]?).map (·.type) = some 47 := by kernel_rfl
theorem tPl : (Tryd.prog.globals[2]?).map (·.type) = some 50 := by kernel_rfl
/-- A table of rows, by its cells. -/
theorem tab2 {H : Type} {enc : TypeId × Value → H} {P : Program} {W : World} {base : Nat} {sp : Nat → Bool} {held : Bool} {fuel : Nat} {t e e2 : TypeId} {n m : Nat} {k : IntKind} {cs : List Value} {l : List Int} {p : List MemPlace}
    (ht : P.underlying t = some (.array n e)) (he : P.underlying e = some (.array m e2)) (he2 : P.underlying e2 = some (.int k)) (h1 : P.cellsOf e2 = 1) (h2 : P.cellsOf e = m) (h3 : P.cellsOf t = n * m) (hl : l.length = n * m) (hm : 0 < m)
    (h : DataW.trod enc P W base sp held fuel t cs = some (.agg ((List.range n).map fun i => Lib.tabData k ((l.drop (i * m)).take m)), p)) : cs = l.map (Value.int k) := by
  obtain ⟨xs, f, _, hx, hlen, hxs, hel⟩ := DataW.trod_array ht h
  simp only [Prod.mk.injEq, DataW.agg.injEq] at hx
  rw [h2] at hel
  have hrow : ∀ i, i < n → (cs.drop (i * m)).take m = ((l.drop (i * m)).take m).map (Value.int k) := fun i hi => by
    have hx1 : (xs.map (·.1))[i]? = some (Lib.tabData k ((l.drop (i * m)).take m)) := by rw [← hx.1]; simp [hi]
    rw [List.getElem?_map, Option.map_eq_some_iff] at hx1
    obtain ⟨⟨d, q⟩, hy, hd⟩ := hx1
    simp only at hd
    have := hel i hi
    rw [hy, hd] at this
    exact Lib.cells_of_tab he he2 h1 h2 this
  apply List.ext_getElem?
  intro j
  rcases Nat.lt_or_ge j (n * m) with hj | hj
  · have hq : j / m < n := Nat.div_lt_of_lt_mul (by rw [Nat.mul_comm]; exact hj)
    have hr : j % m < m := Nat.mod_lt _ hm
    have e : j / m * m + j % m = j := by rw [Nat.mul_comm]; exact Nat.div_add_mod j m
    have := congrArg (·[j % m]?) (hrow (j / m) hq)
    simp only [List.getElem?_take, hr, if_true, List.getElem?_drop, List.getElem?_map, e] at this
    rw [this, List.getElem?_map]
  · rw [List.getElem?_eq_none (by omega), List.getElem?_eq_none (by rw [List.length_map]; omega)]
theorem tab_of_var {W : World} {n : String} {g : Nat} {cs : Array Value} {k : IntKind} {l : List Int} (hg : Tryd.prog.globalNamed n = some g) (hv : W.var? Tryd.prog n = some cs) (h : cs.toList = l.map (Value.int k)) : Tab W g k l := fun j v hj => by
  rw [Nat.zero_add, World.var?_cell hg hv j]
  rw [← h] at hj
  simpa using hj
theorem c5 : Tryd.prog.cellsOf 5 = 1 := by kernel_rfl
theorem c22 : Tryd.prog.cellsOf 22 = 1 := by kernel_rfl
theorem c23 : Tryd.prog.cellsOf 23 = 8 := by kernel_rfl
theorem c24 : Tryd.prog.cellsOf 24 = 16 := by kernel_rfl
theorem c46 : Tryd.prog.cellsOf 46 = 16 := by kernel_rfl
theorem c47 : Tryd.prog.cellsOf 47 = 10 * 16 := by kernel_rfl
theorem c49 : Tryd.prog.cellsOf 49 = 4 := by kernel_rfl
theorem c50 : Tryd.prog.cellsOf 50 = 8 * 4 := by kernel_rfl
theorem dIv : (Rows.laid_quern_mixb_iv : DataW Unit) = Lib.tabData .u64 ivL := rfl
theorem dOrd : (Rows.laid_quern_mixb_orders : DataW Unit) = .agg ((List.range 10).map fun i => Lib.tabData .u8 ((ordL.drop (i * 16)).take 16)) := rfl
theorem dPl : (Rows.laid_quern_mixb_places : DataW Unit) = .agg ((List.range 8).map fun i => Lib.tabData .u8 ((plL.drop (i * 4)).take 4)) := rfl
def laidI : List (String × DataW Unit) := [("quern/mixb.iv", Rows.laid_quern_mixb_iv)]
def laidIO : List (String × DataW Unit) := [("quern/mixb.iv", Rows.laid_quern_mixb_iv), ("quern/mixb.orders", Rows.laid_quern_mixb_orders)]
def laidIOP : List (String × DataW Unit) := [("quern/mixb.iv", Rows.laid_quern_mixb_iv), ("quern/mixb.orders", Rows.laid_quern_mixb_orders), ("quern/mixb.places", Rows.laid_quern_mixb_places)]
def laidOP : List (String × DataW Unit) := [("quern/mixb.orders", Rows.laid_quern_mixb_orders), ("quern/mixb.places", Rows.laid_quern_mixb_places)]
theorem of_laidIOP {W : World} (h : laidMetH Tryd.prog laidIOP W) : Tab W 0 .u64 ivL ∧ Tab W 1 .u8 ordL ∧ Tab W 2 .u8 plL := by
  rw [MakeChecks.laidMetH_plain _ _ _ (by kernel_rfl)] at h
  obtain ⟨ps, ⟨g0, t0, cs0, f0, p0, q0, hg0, ht0, hv0, hd0, ⟨g1, t1, cs1, f1, p1, q1, hg1, ht1, hv1, hd1, ⟨g2, t2, cs2, f2, p2, q2, hg2, ht2, hv2, hd2, _, _⟩, _⟩, _⟩, _, _⟩ := h
  obtain rfl := Option.some.inj (gIv.symm.trans hg0)
  obtain rfl := Option.some.inj (gOrd.symm.trans hg1)
  obtain rfl := Option.some.inj (gPl.symm.trans hg2)
  obtain rfl := Option.some.inj (tIv.symm.trans ht0)
  obtain rfl := Option.some.inj (tOrd.symm.trans ht1)
  obtain rfl := Option.some.inj (tPl.symm.trans ht2)
  rw [dIv] at hd0
  rw [dOrd] at hd1
  rw [dPl] at hd2
  exact ⟨tab_of_var hg0 hv0 (Lib.cells_of_tab Tryd.underlying23 Tryd.underlying22 c22 c23 hd0), tab_of_var hg1 hv1 (tab2 Tryd.underlying47 Tryd.underlying46 Tryd.underlying5 c5 c46 c47 rfl (by decide) hd1), tab_of_var hg2 hv2 (tab2 Tryd.underlying50 Tryd.underlying49 Tryd.underlying5 c5 c49 c50 rfl (by decide) hd2)⟩
theorem of_laidI {W : World} (h : laidMetH Tryd.prog laidI W) : Tab W 0 .u64 ivL := by
  rw [MakeChecks.laidMetH_plain _ _ _ (by kernel_rfl)] at h
  obtain ⟨ps, ⟨g0, t0, cs0, f0, p0, q0, hg0, ht0, hv0, hd0, _, _⟩, _, _⟩ := h
  obtain rfl := Option.some.inj (gIv.symm.trans hg0)
  obtain rfl := Option.some.inj (tIv.symm.trans ht0)
  rw [dIv] at hd0
  exact tab_of_var hg0 hv0 (Lib.cells_of_tab Tryd.underlying23 Tryd.underlying22 c22 c23 hd0)
theorem of_laidIO {W : World} (h : laidMetH Tryd.prog laidIO W) : Tab W 0 .u64 ivL ∧ Tab W 1 .u8 ordL := by
  rw [MakeChecks.laidMetH_plain _ _ _ (by kernel_rfl)] at h
  obtain ⟨ps, ⟨g0, t0, cs0, f0, p0, q0, hg0, ht0, hv0, hd0, ⟨g1, t1, cs1, f1, p1, q1, hg1, ht1, hv1, hd1, _, _⟩, _⟩, _, _⟩ := h
  obtain rfl := Option.some.inj (gIv.symm.trans hg0)
  obtain rfl := Option.some.inj (gOrd.symm.trans hg1)
  obtain rfl := Option.some.inj (tIv.symm.trans ht0)
  obtain rfl := Option.some.inj (tOrd.symm.trans ht1)
  rw [dIv] at hd0
  rw [dOrd] at hd1
  exact ⟨tab_of_var hg0 hv0 (Lib.cells_of_tab Tryd.underlying23 Tryd.underlying22 c22 c23 hd0), tab_of_var hg1 hv1 (tab2 Tryd.underlying47 Tryd.underlying46 Tryd.underlying5 c5 c46 c47 rfl (by decide) hd1)⟩
theorem of_laidOP {W : World} (h : laidMetH Tryd.prog laidOP W) : Tab W 1 .u8 ordL ∧ Tab W 2 .u8 plL := by
  rw [MakeChecks.laidMetH_plain _ _ _ (by kernel_rfl)] at h
  obtain ⟨ps, ⟨g1, t1, cs1, f1, p1, q1, hg1, ht1, hv1, hd1, ⟨g2, t2, cs2, f2, p2, q2, hg2, ht2, hv2, hd2, _, _⟩, _⟩, _, _⟩ := h
  obtain rfl := Option.some.inj (gOrd.symm.trans hg1)
  obtain rfl := Option.some.inj (gPl.symm.trans hg2)
  obtain rfl := Option.some.inj (tOrd.symm.trans ht1)
  obtain rfl := Option.some.inj (tPl.symm.trans ht2)
  rw [dOrd] at hd1
  rw [dPl] at hd2
  exact ⟨tab_of_var hg1 hv1 (tab2 Tryd.underlying47 Tryd.underlying46 Tryd.underlying5 c5 c46 c47 rfl (by decide) hd1), tab_of_var hg2 hv2 (tab2 Tryd.underlying50 Tryd.underlying49 Tryd.underlying5 c5 c49 c50 rfl (by decide) hd2)⟩
theorem own : ownKnob Tryd.prog.godebug = none := by kernel_rfl
theorem laidOut : laidOutB Tryd.prog = true := by kernel_rfl
/-- The door's own heap meets the conditions. -/
theorem doorIOP (os : Os) (args : Array Value) : laidMetH Tryd.prog laidIOP ((World.doorLaid Tryd.prog 42 os).forCall (fun _ _ => 0) ⟨#[], args, []⟩).memory :=
  laidMetH_of_parts3 (fuel := 8) (laidMet_of_run' 8 (by kernel_rfl) (by kernel_rfl)) (by kernel_rfl) (by kernel_rfl)
theorem doorI (os : Os) (args : Array Value) : laidMetH Tryd.prog laidI ((World.doorLaid Tryd.prog 42 os).forCall (fun _ _ => 0) ⟨#[], args, []⟩).memory :=
  laidMetH_of_parts3 (fuel := 8) (laidMet_of_run' 8 (by kernel_rfl) (by kernel_rfl)) (by kernel_rfl) (by kernel_rfl)
theorem doorIO (os : Os) (args : Array Value) : laidMetH Tryd.prog laidIO ((World.doorLaid Tryd.prog 42 os).forCall (fun _ _ => 0) ⟨#[], args, []⟩).memory :=
  laidMetH_of_parts3 (fuel := 8) (laidMet_of_run' 8 (by kernel_rfl) (by kernel_rfl)) (by kernel_rfl) (by kernel_rfl)
theorem doorOP (os : Os) (args : Array Value) : laidMetH Tryd.prog laidOP ((World.doorLaid Tryd.prog 42 os).forCall (fun _ _ => 0) ⟨#[], args, []⟩).memory :=
  laidMetH_of_parts3 (fuel := 8) (laidMet_of_run' 8 (by kernel_rfl) (by kernel_rfl)) (by kernel_rfl) (by kernel_rfl)
end MX
end Go.Proofs.YtkilackhomhpgabDoor
