/-
  For all inputs WordBack (a turn and the turn back; turns by two numbers are one by their sum; bits are kept) returns true and leaves its arguments as they were; no condition.
-/
import Derived.Test.YtbjelenmnlmodaaRows
import Derived.WalkKit
import Derived.ProofKit
import Derived.OpenShut
import Derived.ShutString
import Derived.Test.YtbjelenmnlmodaaTurnWalks
namespace Go.Proofs.Ytbjelenmnlmodaa.wordBack
open Turn
open Go.ChangeShapes Go.WideShapes Go.ChangeAt Go.RowKit
open Go.ChangeMaps (open_string shut_string)
set_option linter.unusedVariables false      -- a walk need not use every 'w<i>' (that an integer argument fits its kind)

theorem own : ownKnob Try.prog.godebug = none := by kernel_rfl

/-! ### STEP 1: THE WALK: the Go text returns true. 'Grown w w'': the world has at most new blocks (Derived/RowKit3.lean). Part the cases AHEAD of 'go_enter' where a test parts the walk; take each callee by a contract of your own. -/
theorem walk (a0 : Int) (a1 : Int) (a2 : Int) (a3 : Int) (w0 : (Lit.int .u32 a0).wf = true) (w1 : (Lit.int .u64 a1).wf = true) (w2 : (Lit.int .i64 a2).wf = true) (w3 : (Lit.int .i8 a3).wf = true) (w : World) :
    Calls Try.prog 6 #[.int .u32 a0, .int .u64 a1, .int .i64 a2, .int .i8 a3] w fun e w' => e = .returned (.bool true) ∧ Grown w w' := by
  have hb0 : 0 ≤ a0 ∧ a0 < 4294967296 := by have := bounds_u32 w0; omega
  have hb1 : 0 ≤ a1 ∧ a1 < 18446744073709551616 := by have := bounds_u64 w1; omega
  have hb3 : -128 ≤ a3 ∧ a3 ≤ 127 := by have := bounds_i8 w3; omega
  clear w0 w1 w2 w3
  obtain ⟨hb0, hb0'⟩ := hb0
  obtain ⟨hb1, hb1'⟩ := hb1
  obtain ⟨hb3, hb3'⟩ := hb3
  have e1 := T32_one
  have e2 := T64_three
  have e3 : T32 (T32 a0 a3) (-a3) = a0 := by rw [T32_add a0 a3 (-a3) 0 (by omega)]; exact T32_zero _ _ hb0 hb0' (by omega)
  have e4 : T64 (T64 a1 a3) (-a3) = a1 := by rw [T64_add a1 a3 (-a3) 0 (by omega)]; exact T64_zero _ _ hb1 hb1' (by omega)
  have ht : -64 < a2.tmod 64 ∧ a2.tmod 64 < 64 := by rw [Int.tmod_eq_emod]; split <;> omega
  obtain ⟨ht1, ht2⟩ := ht
  have e5 : T32 (T32 a0 (a2.tmod 64)) a3 = T32 a0 (a2.tmod 64 + a3) := T32_add _ _ _ _ rfl
  have e6 : T64 (T64 a1 (a2.tmod 64)) a3 = T64 a1 (a2.tmod 64 + a3) := T64_add _ _ _ _ rfl
  have e7 := T32_xor a0 1 a3
  have e8 := T64_xor a1 1 a3
  obtain ⟨b1, b1'⟩ := T32_bd a0 a3
  obtain ⟨b2, b2'⟩ := T64_bd a1 a3
  obtain ⟨b3, b3'⟩ := T32_bd a0 (a2.tmod 64)
  obtain ⟨b4, b4'⟩ := T64_bd a1 (a2.tmod 64)
  obtain ⟨b5, b5'⟩ := xor32_bd a0 1
  obtain ⟨b6, b6'⟩ := xor64_bd a1 1
  go_enter Try.func6, Try.ntmps6
  go_wp2_with (first | (go_at_call 18; refine (TW.turn32 _ _ _ (by omega) (by omega)).mono ?_; rintro e w' ⟨rfl, rfl⟩) | (go_at_call 20; refine (TW.turn64 _ _ _ (by omega) (by omega)).mono ?_; rintro e w' ⟨rfl, rfl⟩))
  go_ret
  exact ⟨rfl, Grown.refl _⟩

/-! ### THE ROW's STEP: WRITTEN OUT: LEAVE IT -/
set_option maxRecDepth 100000 in
theorem lifted (os : Os) (started : os.Started) (H : Type) (enc : TypeId × Value → H) :
    ReturnsInHanded {} Try.checked os 6 .any (Rows.wordBackSpec.pre6 enc Try.prog Try.f6 Rows.wordBackRow.domain false) (Rows.wordBackSpec.post enc Try.prog Try.f6 false true false false) := by
  refine returnsInHanded_of_change (C := Try.checked) own started (by kernel_rfl) Try.func6
    (ChangeSpec.witness6 (enc := enc) (C := Try.checked) false ⟨#[], #[.int .u32 0, .int .u64 0, .int .i64 0, .int .i8 0], []⟩ 8 (by kernel_rfl) (by kernel_rfl) (by kernel_rfl) (by kernel_rfl)) ?_
  intro W base args ds gs before hval0 hW hcnd _
  have hval : ∀ (j : Nat) t v, Try.f6.params[j]? = some t → args[j]? = some v → Value.okWide Try.prog W .any base t v := hval0
  have hW' := hW
  obtain ⟨p, q, hA0, hV, rfl, hfz, hnd⟩ := hW
  have hA : DataW.TrodAll enc Try.prog W 0 (fun _ => true) true Try.f6.params.toList args.toList ds p := hA0
  rw [Try.params6] at hA hval
  obtain ⟨v0, vs0, d0, ds0, p0, q0, hargs, rfl, rfl, h0, r0⟩ := trodAll_cons hA
  obtain ⟨v1, vs1, d1, ds1, p1, q1, rfl, rfl, rfl, h1, r1⟩ := trodAll_cons r0
  obtain ⟨v2, vs2, d2, ds2, p2, q2, rfl, rfl, rfl, h2, r2⟩ := trodAll_cons r1
  obtain ⟨v3, vs3, d3, ds3, p3, q3, rfl, rfl, rfl, h3, r3⟩ := trodAll_cons r2
  obtain ⟨rfl, rfl, rfl⟩ := trodAll_nil r3
  obtain rfl : args = #[v0, v1, v2, v3] := by cases args; simp_all
  obtain ⟨rfl, rfl⟩ := trodVars_none hV
  obtain ⟨a0, rfl, rfl, rfl, w0⟩ := open_int Try.underlying24 (hval 0 24 v0 rfl rfl) h0
  obtain ⟨a1, rfl, rfl, rfl, w1⟩ := open_int Try.underlying28 (hval 1 28 v1 rfl rfl) h1
  obtain ⟨a2, rfl, rfl, rfl, w2⟩ := open_int Try.underlying3 (hval 2 3 v2 rfl rfl) h2
  obtain ⟨a3, rfl, rfl, rfl, w3⟩ := open_int Try.underlying43 (hval 3 43 v3 rfl rfl) h3
  clear hA0 hval0
  simp only [List.append_nil] at hW'
  refine (walk a0 a1 a2 a3 w0 w1 w2 w3 W).mono fun e W' ⟨he, hg⟩ => ?_
  subst he
  exact ⟨_, rfl, post_of_same (pa := []) (pv := []) hW' (fun _ _ _ => (trodAll_cons_mk (shut_bool Try.underlying4 _) trodAll_mk0)) (fun sp _ => (trodAll_cons_mk (shut_int Try.underlying24 w0) (trodAll_cons_mk (shut_int Try.underlying28 w1) (trodAll_cons_mk (shut_int Try.underlying3 w2) (trodAll_cons_mk (shut_int Try.underlying43 w3) trodAll_mk0))))) (fun _ _ => rfl) rfl
    (hg.frame _) hg.2.1 (ok_one (by kernel_rfl) rfl (okWide_bool_mk Try.underlying4 _))⟩

theorem over : Rows.wordBackRow.holds Try.pinned (OpenSpec.ofChange Rows.wordBackSpec) :=
  OpenClaim.holds_of_wide 6 Try.f6 rfl rfl rfl rfl rfl rfl rfl ⟨rfl, rfl, rfl, rfl, rfl⟩ rfl rfl rfl rfl rfl (by kernel_rfl) Try.func6 (by kernel_rfl)
    (of_decide_eq_true (by kernel_rfl)) (by unfold Func.isWrapper; first | (rw [if_pos (by decide +kernel)]; kernel_rfl) | (rw [if_neg (by decide +kernel)]; exact ⟨rfl, rfl⟩))
    (fun os started H enc _ => lifted os started H enc)

/-- ████ THE STATEMENT ████ -/
theorem proved : Rows.WordBackSaid :=
  over
#print axioms proved
end Go.Proofs.Ytbjelenmnlmodaa.wordBack

namespace Go.Proofs.Ytbjelenmnlmodaa
/-- THE STATEMENT. -/
theorem wordBack_holds : Rows.WordBackSaid := wordBack.proved
#print axioms wordBack_holds
end Go.Proofs.Ytbjelenmnlmodaa
