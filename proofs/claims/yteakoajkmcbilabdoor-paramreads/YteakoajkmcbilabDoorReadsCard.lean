/-
  For all texts ParamReads returns true (both Reads tell the same kind, like parameters, the same place and error) and leaves its argument as it was; the variables that its row lists hold what the program's text lays; MaxLen holds whatever number.
-/
import Derived.Test.YteakoajkmcbilabDoorCards
import Derived.Test.YteakoajkmcbilabDoorTie
import Derived.Test.YteakoajkmcbilabDoorLaidR
import Derived.SizedLaws
import Derived.Test.YteakoajkmcbilabDoorRrC
namespace Go.Proofs.YteakoajkmcbilabDoor.paramReads
open Go Go.ChangeShapes Go.WideShapes Go.ChangeAt Go.RowKit
open Go.ChangeMaps (open_string shut_string)
set_option linter.unusedVariables false

set_option maxRecDepth 100000 in
theorem lifted (os : Os) (started : os.Started) (H : Type) (enc : TypeId × Value → H) :
    ReturnsInHanded {} Tryd.checked os 4 .any (fun w args => (Rows.paramReadsSpec.pre enc Tryd.prog Tryd.f4 [] false w args ∧ laidMetH Tryd.prog LS.laidB w) ∧ sizedMet enc Tryd.prog Tryd.f4 (OpenSpec.ofChange Rows.paramReadsSpec) false w args)
      (Rows.paramReadsSpec.post enc Tryd.prog Tryd.f4 false true false false) := by
  refine LS.of_change_and_shaped (C := Tryd.checked) (X := fun w _ => laidMetH Tryd.prog LS.laidB w) (fun _ _ _ hh h => h.of_heap hh) LS.own started (by kernel_rfl) Tryd.func4
    (ChangeSpec.witness_shaped (enc := enc) (C := Tryd.checked) (os := os) (X := fun w _ => laidMetH Tryd.prog LS.laidB w) false (World.laidAll Tryd.prog os LS.laidB) #[.string .empty] 8 (World.laidAll_os _ _ _) (LS.shapedB os) (by kernel_rfl) (by kernel_rfl) (by kernel_rfl) (LS.doorB os _)) ?_
  intro W base args ds gs before hval0 hW _ hsz hL hSh _
  have hval : ∀ (j : Nat) t v, Tryd.f4.params[j]? = some t → args[j]? = some v → Value.okWide Tryd.prog W .any base t v := hval0
  have hW' := hW
  obtain ⟨p, q, hA0, hV, rfl, hfz, hnd⟩ := hW
  have hA : DataW.TrodAll enc Tryd.prog W 0 (fun _ => true) true Tryd.f4.params.toList args.toList ds p := hA0
  rw [Tryd.params4] at hA hval hsz
  obtain ⟨v0, vs0, d0, ds0, p0, q0, hargs, rfl, rfl, h0, r0⟩ := trodAll_cons hA
  obtain ⟨rfl, rfl, rfl⟩ := trodAll_nil r0
  obtain rfl : args = #[v0] := by cases args; simp_all
  obtain ⟨rfl, rfl⟩ := trodVars_none hV
  obtain ⟨a0, rfl, rfl, rfl, w0⟩ := open_string Tryd.underlying9 (hval 0 9 v0 rfl rfl) h0
  have tb := LS.of_laidB hL
  obtain ⟨mx, hmx⟩ := LS.maxLen_shaped hSh
  clear hA0 hval0
  obtain ⟨⟨te, pe, her⟩, ⟨te', pe', hes⟩⟩ := LS.errs_laid hL
  refine (LW.reads a0 mx (.iface te' pe') (.iface te pe) W ⟨fun Z hZ => by rw [hZ.cell (LW.lt_of_cell hmx)]; exact hmx, fun Z hZ => LS.tab_below tb hZ, fun Z hZ => by rw [hZ.cell (LW.lt_of_cell hes)]; exact hes, fun Z hZ => by rw [hZ.cell (LW.lt_of_cell her)]; exact her, .inr ⟨_, _, rfl⟩, .inr ⟨_, _, rfl⟩⟩).mono fun e W' ⟨he, bel⟩ => ?_
  subst he
  exact ⟨_, rfl, _, _, _, [], _, [], hW', trodAll_mk1 (shut_bool Tryd.underlying4 _), (trodAll_cons_mk (shut_string Tryd.underlying9 w0) trodAll_mk0), rfl, bel.frame _, fun h => by cases h⟩

theorem proved : Rows.ParamReadsSaid :=
  OpenClaim.holds_of_wide 4 Tryd.f4 rfl rfl rfl rfl rfl rfl rfl ⟨rfl, rfl, rfl, rfl, rfl⟩ rfl rfl rfl rfl rfl (by kernel_rfl) Tryd.func4 (by kernel_rfl)
    (of_decide_eq_true (by kernel_rfl)) (by unfold Func.isWrapper; first | (rw [if_pos (by decide +kernel)]; kernel_rfl) | (rw [if_neg (by decide +kernel)]; exact ⟨rfl, rfl⟩))
    (fun os started H enc _ => lifted os started H enc)

theorem card : Rows.ParamReadsCardSaid :=
  Claim7.holds_tied_plain_at .later [] [.data, .data, .data, .data, .sentinel, .sentinel, .pinned] true (true, "be40f6a1e1d1176bd9b31d52c899189637c48361240605052a23fe316b4131d7") true
    proved (fun _ h => by cases h) (by kernel_rfl) (fun _ h => by cases h) paramReads_row_tie rfl ⟨rfl, rfl⟩ (by kernel_rfl) rfl
    (fun f fn hf hfn => by
      obtain rfl : f = 4 := Option.some.inj ((show Tryd.prog.funcNamed "quern/quernlaw02.ParamReads" = some 4 by kernel_rfl).symm.trans hf) |>.symm
      obtain rfl : fn = Tryd.f4 := (Option.some.inj (Tryd.func4.symm.trans hfn)).symm
      exact ⟨by kernel_rfl, fun j t ht => by
        rw [Tryd.params4] at ht
        have hm : t ∈ [9] := by simpa using Array.mem_of_getElem? ht
        have hall : ([9].all fun u => !Tryd.prog.wantsStandIn u) = true := by kernel_rfl
        exact (show Tryd.prog.wantsStandIn t = false by simpa using List.all_eq_true.1 hall t hm)⟩)
    (by kernel_rfl)
end Go.Proofs.YteakoajkmcbilabDoor.paramReads

namespace Go.Proofs.YteakoajkmcbilabDoor
/-- THE STATEMENT. -/
theorem paramReads_holds : Rows.ParamReadsCardSaid := paramReads.card
#print axioms paramReads_holds
end Go.Proofs.YteakoajkmcbilabDoor
