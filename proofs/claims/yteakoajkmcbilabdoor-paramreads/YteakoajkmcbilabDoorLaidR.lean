/-
  What the listed variables of ParamReads' row tell of the two errors.
-/
import Derived.Test.YteakoajkmcbilabDoorLaidB
namespace Go.Proofs.YteakoajkmcbilabDoor
open Go.ChangeShapes Go.WideShapes Go.ChangeAt Go.RowKit
set_option linter.unusedVariables false
set_option linter.unusedSimpArgs false
namespace LS
theorem laidR_row : Rows.paramReadsRow.laid = laidB := rfl
theorem gRange : Tryd.prog.globalNamed "strconv.ErrRange" = some 7 := by kernel_rfl
theorem gSyntax : Tryd.prog.globalNamed "strconv.ErrSyntax" = some 6 := by kernel_rfl
theorem tRange : (Tryd.prog.globals[7]?).map (·.type) = some 54 := by kernel_rfl
theorem tSyntax : (Tryd.prog.globals[6]?).map (·.type) = some 54 := by kernel_rfl
set_option maxRecDepth 100000 in
theorem iface_of_trod {P : Program} {W : World} {f : Nat} {t : TypeId} {cs : List Value} {p : List MemPlace} {ms : Array (String × TypeId)} {d : DataW Unit} {name : String} (hu : P.underlying t = some (.interface ms))
    (h : DataW.trod (fun _ => ()) P W 0 (fun _ => true) false f t cs = some (.iface name d, p)) : ∃ u v, cs = [.iface u v] := by
  cases f with
  | zero => cases h
  | succ n =>
    have h' : DataW.trodStep (fun _ => ()) P W 0 (fun _ => true) false (DataW.trod (fun _ => ()) P W 0 (fun _ => true) false n) t cs = some (.iface name d, p) := by rw [← h]; first | rfl | exact (DataW.trod_succ ..).symm
    unfold DataW.trodStep at h'
    rw [hu] at h'
    split at h' <;> simp_all
theorem errs_laid {W : World} (h : laidMetH Tryd.prog laidB W) : (∃ te pe, W.cell? ⟨7, 0, none⟩ = some (.iface te pe)) ∧ (∃ te pe, W.cell? ⟨6, 0, none⟩ = some (.iface te pe)) := by
  rw [MakeChecks.laidMetH_plain _ _ _ (by kernel_rfl)] at h
  obtain ⟨ps, ⟨g2, t2, cs2, f2, p2, q2, hg2, ht2, hv2, hd2, ⟨g1, t1, cs1, f1, p1, q1, hg1, ht1, hv1, hd1, ⟨g0, t0, cs0, f0, p0, q0, hg0, ht0, hv0, hd0, ⟨g3, t3, cs3, f3, p3, q3, hg3, ht3, hv3, hd3, ⟨g4, t4, cs4, f4, p4, q4, hg4, ht4, hv4, hd4, ⟨g5, t5, cs5, f5, p5, q5, hg5, ht5, hv5, hd5, _, _⟩, _⟩, _⟩, _⟩, _⟩, _⟩, _, _⟩ := h
  clear hd0 hd1 hd2 hd3 hv0 hv1 hv2 hv3
  obtain rfl := Option.some.inj (gRange.symm.trans hg4)
  obtain rfl := Option.some.inj (tRange.symm.trans ht4)
  obtain rfl := Option.some.inj (gSyntax.symm.trans hg5)
  obtain rfl := Option.some.inj (tSyntax.symm.trans ht5)
  obtain ⟨u, v, e4⟩ := iface_of_trod Tryd.underlying54 hd4
  obtain ⟨u', v', e5⟩ := iface_of_trod Tryd.underlying54 hd5
  refine ⟨⟨u, v, ?_⟩, ⟨u', v', ?_⟩⟩
  · have := World.var?_cell gRange hv4 0
    rw [this, ← Array.getElem?_toList, e4]
    rfl
  · have := World.var?_cell gSyntax hv5 0
    rw [this, ← Array.getElem?_toList, e5]
    rfl
end LS
end Go.Proofs.YteakoajkmcbilabDoor
