/-
  The law CrewNames answers true: Named of a name that no hash has tells ErrVariant, and the two errors have their numbers; it holds wherever the package's table of names holds what the program's text lays.
-/
import Derived.Test.YtbinccfmhaefaaaGreatDoorCards
import Derived.Test.YtbinccfmhaefaaaGreatDoorTie
import Derived.SizedLaws
import Derived.Test.YtbinccfmhaefaaaGreatDoorCn
namespace Go.Proofs.YtbinccfmhaefaaaGreatDoor.crewNames
open Go Go.ChangeShapes Go.WideShapes Go.ChangeAt Go.RowKit
set_option linter.unusedVariables false
set_option maxRecDepth 100000 in
theorem lifted (os : Os) (started : os.Started) (H : Type) (enc : TypeId × Value → H) :
    ReturnsInHanded {} Tryz.checked os 3 .any (fun w args => (Rows.crewNamesSpec.pre enc Tryz.prog Tryz.f3 [] false w args ∧ laidMetH Tryz.prog CN.laidV w) ∧ sizedMet enc Tryz.prog Tryz.f3 (OpenSpec.ofChange Rows.crewNamesSpec) false w args)
      (Rows.crewNamesSpec.post enc Tryz.prog Tryz.f3 false true false false) := by
  refine returnsInHanded_of_change_and (C := Tryz.checked) (X := fun w _ => laidMetH Tryz.prog CN.laidV w) (fun _ _ _ hh h => h.of_heap hh) CN.own started (by kernel_rfl) Tryz.func3
    (ChangeSpec.witness_shaped (enc := enc) (C := Tryz.checked) (os := os) (X := fun w _ => laidMetH Tryz.prog CN.laidV w) false (World.doorLaid Tryz.prog 176 os) #[] 8 rfl (World.shaped_of_RefB (by kernel_rfl) (by kernel_rfl)) (by kernel_rfl) (by kernel_rfl) (by kernel_rfl) (CN.doorV os _)) ?_
  intro W base args ds gs before hval0 hW _ hsz hL _
  have hW' := hW
  obtain ⟨p, q, hA0, hV, rfl, hfz, hnd⟩ := hW
  have hA : DataW.TrodAll enc Tryz.prog W 0 (fun _ => true) true Tryz.f3.params.toList args.toList ds p := hA0
  rw [Tryz.params3] at hA
  obtain ⟨hargs, rfl, rfl⟩ := trodAll_nil hA
  obtain rfl : args = #[] := by cases args; simp_all
  obtain ⟨rfl, rfl⟩ := trodVars_none hV
  have tb := CN.of_laidV hL
  clear hA0 hval0
  simp only [List.append_nil] at hW'
  refine (CN.names W tb).mono fun e W' ⟨he, bel⟩ => ?_
  subst he
  exact ⟨_, rfl, _, _, _, [], [], [], hW', trodAll_mk1 (shut_bool Tryz.underlying4 _), trodAll_mk0, rfl, bel.frame _, fun h => by cases h⟩

theorem proved : Rows.CrewNamesSaid :=
  OpenClaim.holds_of_wide 3 Tryz.f3 rfl rfl rfl rfl rfl rfl rfl ⟨rfl, rfl, rfl, rfl, rfl⟩ rfl rfl rfl rfl rfl (by kernel_rfl) Tryz.func3 (by kernel_rfl)
    (of_decide_eq_true (by kernel_rfl)) (by unfold Func.isWrapper; first | (rw [if_pos (by decide +kernel)]; kernel_rfl) | (rw [if_neg (by decide +kernel)]; exact ⟨rfl, rfl⟩))
    (fun os started H enc _ => lifted os started H enc)

theorem card : Rows.CrewNamesCardSaid :=
  Claim7.holds_tied_plain_at .later [] [.data] true (true, "0ff301d4215fd142081bf6d2515f19ce429414bf89336e5604420105ad645cb3") false
    proved (fun _ h => by cases h) (by kernel_rfl) (fun _ h => by cases h) crewNames_row_tie rfl ⟨rfl, rfl⟩ (by kernel_rfl) rfl
    (fun f fn hf hfn => by
      obtain rfl : f = 3 := Option.some.inj ((show Tryz.prog.funcNamed "quern/quernlaw17.CrewNames" = some 3 by kernel_rfl).symm.trans hf) |>.symm
      obtain rfl : fn = Tryz.f3 := (Option.some.inj (Tryz.func3.symm.trans hfn)).symm
      exact ⟨by kernel_rfl, fun j t ht => by
        rw [Tryz.params3] at ht
        simp at ht⟩)
    (by kernel_rfl)
end Go.Proofs.YtbinccfmhaefaaaGreatDoor.crewNames

namespace Go.Proofs.YtbinccfmhaefaaaGreatDoor
/-- THE STATEMENT. -/
theorem crewNames_holds : Rows.CrewNamesCardSaid := crewNames.card
#print axioms crewNames_holds
end Go.Proofs.YtbinccfmhaefaaaGreatDoor
