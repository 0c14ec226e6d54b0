/-
  For all kinds and parameters ParamBack returns true (what may be comes back by its block and by its line, and is the same) and leaves its arguments as they were; the variables that its row lists hold what the program's text lays; MaxLen holds whatever number.
-/
import Derived.Test.YteakoajkmcbilabDoorCards
import Derived.Test.YteakoajkmcbilabDoorTie
import Derived.Test.YteakoajkmcbilabDoorLaidB
import Derived.SizedLaws
import Derived.Test.YteakoajkmcbilabDoorBackA
namespace Go.Proofs.YteakoajkmcbilabDoor.paramBack
open Go Go.ChangeShapes Go.WideShapes Go.ChangeAt Go.RowKit
open Go.ChangeMaps (open_string shut_string)
set_option linter.unusedVariables false

set_option maxRecDepth 100000 in
theorem lifted (os : Os) (started : os.Started) (H : Type) (enc : TypeId × Value → H) :
    ReturnsInHanded {} Tryd.checked os 5 .any (fun w args => (Rows.paramBackSpec.pre enc Tryd.prog Tryd.f5 [] false w args ∧ laidMetH Tryd.prog LS.laidB w) ∧ sizedMet enc Tryd.prog Tryd.f5 (OpenSpec.ofChange Rows.paramBackSpec) false w args)
      (Rows.paramBackSpec.post enc Tryd.prog Tryd.f5 false true false false) := by
  refine LS.of_change_and_shaped (C := Tryd.checked) (X := fun w _ => laidMetH Tryd.prog LS.laidB w) (fun _ _ _ hh h => h.of_heap hh) LS.own started (by kernel_rfl) Tryd.func5
    (ChangeSpec.witness_shaped (enc := enc) (C := Tryd.checked) (os := os) (X := fun w _ => laidMetH Tryd.prog LS.laidB w) false (World.laidAll Tryd.prog os LS.laidB) #[.int .i64 0, .agg #[.int .i64 0, .int .i64 0, .int .i64 0, .int .i64 0, .int .u32 0, .int .u64 0, .int .u32 0, .int .i64 0, .int .i64 0, .slice none 0 0, .slice none 0 0]] 8 (World.laidAll_os _ _ _) (LS.shapedB os) (by kernel_rfl) (by kernel_rfl) (by kernel_rfl) (LS.doorB os _)) ?_
  intro W base args ds gs before hval0 hW _ hsz hL hSh _
  have hval : ∀ (j : Nat) t v, Tryd.f5.params[j]? = some t → args[j]? = some v → Value.okWide Tryd.prog W .any base t v := hval0
  have hW' := hW
  obtain ⟨p, q, hA0, hV, rfl, hfz, hnd⟩ := hW
  have hA : DataW.TrodAll enc Tryd.prog W 0 (fun _ => true) true Tryd.f5.params.toList args.toList ds p := hA0
  rw [Tryd.params5] at hA hval hsz
  obtain ⟨v0, vs0, d0, ds0, p0, q0, hargs, rfl, rfl, h0, r0⟩ := trodAll_cons hA
  obtain ⟨v1, vs1, d1, ds1, p1, q1, rfl, rfl, rfl, h1, r1⟩ := trodAll_cons r0
  obtain ⟨rfl, rfl, rfl⟩ := trodAll_nil r1
  obtain rfl : args = #[v0, v1] := by cases args; simp_all
  obtain ⟨rfl, rfl⟩ := trodVars_none hV
  obtain ⟨a0, rfl, rfl, rfl, w0⟩ := open_int Tryd.underlying3 (hval 0 3 v0 rfl rfl) h0
  have k1 := h1
  have lt1 : ∀ x ∈ p1, x.block < W.heap.size := by obtain ⟨m, hm⟩ := k1; exact DataW.trod_lt m _ _ _ hm
  obtain ⟨m1, sa1, ta1, sc1, tc1, s1, t1, y1, z1, rfl, ok1, rfl, qs1, bs1, rs1, ns1, ds1', qt1, bt1, rt1, nt1, dt1⟩ := LW.open_params (hval 1 26 v1 rfl rfl) h1
  obtain ⟨ls1, ll1⟩ := LW.params_sized ds1' dt1 (fun n hn => by simpa using List.all_eq_true.1 hsz n (DataW.weights_mem_each (j := 1) (t := 26) rfl rfl n hn))
  have tb := LS.of_laidB hL
  obtain ⟨mx, hmx⟩ := LS.maxLen_shaped hSh
  clear hA0 hval0
  refine (LW.backs a0 m1 sa1 ta1 sc1 tc1 s1 t1 mx W ok1 ⟨rs1, ns1, ls1, qs1, bs1⟩ ⟨rt1, nt1, ll1, qt1, bt1⟩ (fun Z hZ => by rw [hZ.cell (LW.lt_of_cell hmx)]; exact hmx) (fun Z hZ => LS.tab_below tb hZ)).mono fun e W' ⟨he, bel⟩ => ?_
  subst he
  exact ⟨_, rfl, _, _, _, [], _, [], hW', trodAll_mk1 (shut_bool Tryd.underlying4 _), (trodAll_cons_mk (shut_int Tryd.underlying3 w0) (trodAll_cons_mk (Below.trod LS.laidOut (by kernel_rfl) (of_decide_eq_true (by kernel_rfl)) k1 bel lt1) trodAll_mk0)), rfl, bel.frame _, fun h => by cases h⟩

theorem proved : Rows.ParamBackSaid :=
  OpenClaim.holds_of_wide 5 Tryd.f5 rfl rfl rfl rfl rfl rfl rfl ⟨rfl, rfl, rfl, rfl, rfl⟩ rfl rfl rfl rfl rfl (by kernel_rfl) Tryd.func5 (by kernel_rfl)
    (of_decide_eq_true (by kernel_rfl)) (by unfold Func.isWrapper; first | (rw [if_pos (by decide +kernel)]; kernel_rfl) | (rw [if_neg (by decide +kernel)]; exact ⟨rfl, rfl⟩))
    (fun os started H enc _ => lifted os started H enc)

theorem card : Rows.ParamBackCardSaid :=
  Claim7.holds_tied_plain_at .later [] [.data, .data, .data, .data, .sentinel, .sentinel, .pinned] true (true, "be40f6a1e1d1176bd9b31d52c899189637c48361240605052a23fe316b4131d7") true
    proved (fun _ h => by cases h) (by kernel_rfl) (fun _ h => by cases h) paramBack_row_tie rfl ⟨rfl, rfl⟩ (by kernel_rfl) rfl
    (fun f fn hf hfn => by
      obtain rfl : f = 5 := Option.some.inj ((show Tryd.prog.funcNamed "quern/quernlaw02.ParamBack" = some 5 by kernel_rfl).symm.trans hf) |>.symm
      obtain rfl : fn = Tryd.f5 := (Option.some.inj (Tryd.func5.symm.trans hfn)).symm
      exact ⟨by kernel_rfl, fun j t ht => by
        rw [Tryd.params5] at ht
        have hm : t ∈ [3, 26] := by simpa using Array.mem_of_getElem? ht
        have hall : ([3, 26].all fun u => !Tryd.prog.wantsStandIn u) = true := by kernel_rfl
        exact (show Tryd.prog.wantsStandIn t = false by simpa using List.all_eq_true.1 hall t hm)⟩)
    (by kernel_rfl)
end Go.Proofs.YteakoajkmcbilabDoor.paramBack

namespace Go.Proofs.YteakoajkmcbilabDoor
/-- THE STATEMENT. -/
theorem paramBack_holds : Rows.ParamBackCardSaid := paramBack.card
#print axioms paramBack_holds
end Go.Proofs.YteakoajkmcbilabDoor
