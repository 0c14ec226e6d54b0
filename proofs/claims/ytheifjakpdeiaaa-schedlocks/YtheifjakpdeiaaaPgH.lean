/-
  The run of the program's machine.
-/
import Derived.Test.YtheifjakpdeiaaaPgG
import Derived.Defers
import Derived.Recover
namespace Go.Proofs.Ytheifjakpdeiaaa
open Go.RowKit
set_option linter.unusedVariables false
set_option linter.unusedSimpArgs false
namespace LW
open Mc
theorem assertF (X : Value) (w : World) : (Instr.typeAssert (.iface 77 X) 20 77 false).run Try.prog w = .ok X w := by kernel_rfl
theorem fieldF (why : Int) (w : World) : (Instr.field 77 (.agg #[.int .i64 why]) 0).run Try.prog w = .ok (.int .i64 why) w := by kernel_rfl
set_option maxRecDepth 100000 in
set_option maxHeartbeats 4000000 in
theorem caughtR {o : World} {g : Nat} {s : Syst} {pa : Option Addr} {pc : Nat} {t : St} {m : PV} (q6 q7 : Nat) (why : Int) (w : World) (h : PM o w g s pa pc t m) (h6 : m.gb = some q6) (h7 : m.ge = some q7) :
    CallsD Try.prog 27 #[.pointer (some ⟨q6, 0, none⟩), .pointer (some ⟨q7, 0, none⟩)] (.panicking (flP why)) w fun e u' w' => e = .returned (.tuple #[]) ∧ u' = .panicking [{ v := .iface 77 (.agg #[.int .i64 why]), recovered := true }] ∧ PM o w' g s pa pc t { m with gx := 3, gy := why } := by
  have hta := assertF (.agg #[.int .i64 why])
  have hfd := fieldF why
  have HM := TW.hide h
  refine callsD_of_wpS Try.func27 rfl fun c₀ cs' hu => ?_
  apply wpS_seq
  apply wpS_region
  simp [wpOpsS, go_sem, recoverD, hu, Try.ntmps27, Exit.thenS]
  apply wpS_seq
  apply wpS_region
  simp [wpOpsS, go_sem, recoverD, hu, Try.ntmps27, Exit.thenS]
  refine wpS_cond (t := true) (by simp [Act.eval, Array.replicate]) ?_
  simp only [if_true]
  refine wpS_of_wp ?_
  change Code.wp _ _ _ { tmps := #[.pointer (some ⟨q6, 0, none⟩), .pointer (some ⟨q7, 0, none⟩), (.iface 77 (.agg #[.int .i64 why])), (.iface 77 (.agg #[.int .i64 why])), (.iface 77 (.agg #[.int .i64 why])), .bool true, undef, undef, undef], defers := [] } _
  clear h
  refine wp_region_noPanic ?_
  refine RG.wp_region_L (fun Z => True) (fun Z => True) [] (by kernel_rfl) ?_
  refine RG.wpL_any fun Y hY => ?_
  have HMy : Hid (PM o Y g s pa pc t m) := by rw [hY]; exact HM.out.below (below_drewN (Below.refl _ _) 1)
  clear hY HM
  refine RG.wpL_take (fuel := 2) (a' := ?Az21) [0, 1, 2] (by kernel_rfl) (by kernel_rfl) (fun _ _ _ _ _ h => h) trivial (fun _ => trivial) ?rz21 ?_
  case rz21 =>
    refine RG.RunsIf.weak (v := ?_) (by rfl) (by rfl) (fun Z hT => ?_) ?_
    rotate_left
    · go_simp
      rfl
    simp only [Act.put, List.setIfInBounds_toArray, List.set_cons_zero, List.set_cons_succ, List.getElem_toArray, List.getElem_cons_zero, List.getElem_cons_succ]
    refine RG.RunsIf.weak (v := ?_) (by rfl) (by rfl) (fun Z hT => ?_) ?_
    rotate_left
    · go_simp
      rfl
    simp only [Act.put, List.setIfInBounds_toArray, List.set_cons_zero, List.set_cons_succ, List.getElem_toArray, List.getElem_cons_zero, List.getElem_cons_succ]
    refine RG.RunsIf.weak (v := .int .i64 why) (by rfl) (by rfl) (fun Z hT => ?_) ?_
    · go_simp
    simp only [Act.put, List.setIfInBounds_toArray, List.set_cons_zero, List.set_cons_succ, List.getElem_toArray, List.getElem_cons_zero, List.getElem_cons_succ]
    exact RG.RunsIf.nil
  have ca := blk_cell (i := 0) (HMy.out.gst q6 h6).1 rfl
  have fa : Y.frozen? ⟨q6, 0, none⟩ = false := by simp [World.frozen?, (HMy.out.gst q6 h6).1]
  have HM1 := TW.hide (HMy.out.setG h6 3)
  refine RG.wpL_step (i := 3) (by kernel_rfl) (by rfl) (by rfl) (fun KX hK => ?_)
  have HK := TW.hide hK
  clear hK
  go_simp
  refine HK.out _ _ trivial (fun _ => trivial) ?_
  clear HK KX
  clear ca fa HMy
  generalize World.setCell _ _ _ = V1 at *
  have ca := blk_cell (i := 0) (HM1.out.gse q7 h7).1 rfl
  have fa : V1.frozen? ⟨q7, 0, none⟩ = false := by simp [World.frozen?, (HM1.out.gse q7 h7).1]
  have HM2 := TW.hide (HM1.out.setE h7 why)
  refine RG.wpL_step (i := 4) (by kernel_rfl) (by rfl) (by rfl) (fun KX hK => ?_)
  have HK := TW.hide hK
  clear hK
  go_simp
  refine HK.out _ _ trivial (fun _ => trivial) ?_
  clear HK KX
  clear ca fa HM1
  generalize World.setCell _ _ _ = V2 at *
  refine RG.wpL_done (by kernel_rfl) ?_ _
  refine NoPanic.normal ?_
  cases c₀
  simp [bodyPostS, results, Try.results27]
  exact HM2.out
set_option maxRecDepth 100000 in
set_option maxHeartbeats 4000000 in
theorem idleR (p0 p1 : Value) (w : World) :
    CallsD Try.prog 27 #[p0, p1] .returning w fun e u' w' => e = .returned (.tuple #[]) ∧ u' = .returning ∧ w' = w := by
  refine callsD_of_wpS Try.func27 rfl fun c₀ cs hu => ?_
  apply wpS_seq
  apply wpS_region
  simp [wpOpsS, go_sem, recoverD, hu, Try.ntmps27, Exit.thenS]
  apply wpS_seq
  apply wpS_region
  simp [wpOpsS, go_sem, recoverD, hu, Try.ntmps27, Exit.thenS]
  refine wpS_cond (t := false) (by simp [Act.eval, Array.replicate]) ?_
  simp only [Bool.false_eq_true, if_false]
  refine wpS_of_wp (wp_skip ?_)
  cases c₀
  simp_all [bodyPostS, results, Try.results27]
theorem results_run (tmps : Array Value) (w : World) (q6 q7 : Nat) (x y : Int) (h6 : tmps.getD 6 undef = .pointer (some ⟨q6, 0, none⟩)) (h7 : tmps.getD 7 undef = .pointer (some ⟨q7, 0, none⟩)) (c0 : w.cell? ⟨q6, 0, none⟩ = some (.int .i64 x)) (c1 : w.cell? ⟨q7, 0, none⟩ = some (.int .i64 y)) :
    (results Try.f20 tmps).run Try.prog w = .ok (.tuple #[.int .i64 x, .int .i64 y]) w := by
  have h6' : tmps[6]?.getD undef = .pointer (some ⟨q6, 0, none⟩) := by simpa using h6
  have h7' : tmps[7]?.getD undef = .pointer (some ⟨q7, 0, none⟩) := by simpa using h7
  have r0 : (loadVar 3 ⟨q6, 0, none⟩).run Try.prog w = .ok (.int .i64 x) w := by simp [go_sem, c0]
  have r1 : (loadVar 26 ⟨q7, 0, none⟩).run Try.prog w = .ok (.int .i64 y) w := by simp [go_sem, c1]
  simp [results, Try.results20, h6', h7', asAddr, r0, r1]
/-- Where a step gave up: what run tells. -/
theorem gaveUpR {o : World} {g : Nat} {s : Syst} {pa : Option Addr} {pc : Nat} {t : St} {m : PV} (q6 q7 : Nat) (why : Int) (V : World) (h : PM o V g s pa pc t m) (h6 : m.gb = some q6) (h7 : m.ge = some q7) (tmps : Array Value) (e6 : tmps.getD 6 undef = .pointer (some ⟨q6, 0, none⟩)) (e7 : tmps.getD 7 undef = .pointer (some ⟨q7, 0, none⟩)) (R : Ending → World → Prop)
    (hR : ∀ w', PM o w' g s pa pc t { m with gx := 3, gy := why } → R (.returned (.tuple #[.int .i64 3, .int .i64 why])) w') :
    Leaves Try.prog Try.f20 tmps R [{ target := .fn (.func 27) #[.pointer (some ⟨q6, 0, none⟩), .pointer (some ⟨q7, 0, none⟩)], args := #[] }] (.panicking (flP why)) V := by
  refine leaves_cons (f := 27) (args := #[.pointer (some ⟨q6, 0, none⟩), .pointer (some ⟨q7, 0, none⟩)]) (by simp) (by simp [go_sem]) ?_
  refine (caughtR q6 q7 why V h h6 h7).mono ?_
  rintro e u' w'' ⟨rfl, rfl, hM⟩
  refine ⟨_, results_run _ w'' q6 q7 3 why e6 e7 (blk_cell (i := 0) (hM.gst q6 h6).1 rfl) (blk_cell (i := 0) (hM.gse q7 h7).1 rfl), ?_⟩
  exact hR _ hM
/-- Where nothing gave up. -/
theorem endsR {o : World} {g : Nat} {s : Syst} {pa : Option Addr} {pc : Nat} {t : St} {m : PV} (q6 q7 : Nat) (V : World) (h : PM o V g s pa pc t m) (h6 : m.gb = some q6) (h7 : m.ge = some q7) (tmps : Array Value) (e6 : tmps.getD 6 undef = .pointer (some ⟨q6, 0, none⟩)) (e7 : tmps.getD 7 undef = .pointer (some ⟨q7, 0, none⟩)) (R : Ending → World → Prop)
    (hR : R (.returned (.tuple #[.int .i64 m.gx, .int .i64 m.gy])) V) :
    Leaves Try.prog Try.f20 tmps R [{ target := .fn (.func 27) #[.pointer (some ⟨q6, 0, none⟩), .pointer (some ⟨q7, 0, none⟩)], args := #[] }] .returning V := by
  refine leaves_cons (f := 27) (args := #[.pointer (some ⟨q6, 0, none⟩), .pointer (some ⟨q7, 0, none⟩)]) (by simp) (by simp [go_sem]) ?_
  refine (idleR _ _ V).mono ?_
  rintro e u' w'' ⟨rfl, rfl, rfl⟩
  exact ⟨_, results_run _ w'' q6 q7 _ _ e6 e7 (blk_cell (i := 0) (h.gst q6 h6).1 rfl) (blk_cell (i := 0) (h.gse q7 h7).1 rfl), hR⟩
/-- The machine with guests. -/
theorem PM.guests {o W : World} {g : Nat} {s : Syst} {pa : Option Addr} {pc : Nat} {t : St} {m : PV} (h : PM o W g s pa pc t m) {W' : World} (hb : Below W.heap.size W W') (q6 q7 : Nat) (x y : Int) (k6 : W'.heap[q6]? = some (.cells #[.int .i64 x] 3 (0, 0))) (k7 : W'.heap[q7]? = some (.cells #[.int .i64 y] 26 (0, 0))) (l6 : W.heap.size ≤ q6) (l7 : W.heap.size ≤ q7) (hg : m.gb = none) : PM o W' g s pa pc t { m with gb := some q6, gx := x, ge := some q7, gy := y } := by
  have h' := h.below hb
  have hs := h.bl.size
  refine ⟨h'.bl, h'.pr, h'.gB, h'.blk, h'.rns, h'.rnB, h'.rnG, h'.rnD, h'.chs, h'.qus, h'.qB, h'.lck, h'.grp, h'.cel, h'.lst, h'.evs, fun p hp => ?_, fun p hp => ?_, fun i j b hi hj => ?_⟩
  · have : q6 = p := by simpa using hp
    subst this
    exact ⟨k6, by omega⟩
  · have : q7 = p := by simpa using hp
    subst this
    exact ⟨k7, by omega⟩
  · have key : ∀ i b, obk { m with gb := some q6, gx := x, ge := some q7, gy := y } i = some b → (i ≠ 3 ∧ obk m i = some b) ∨ (i = 3 ∧ b = q6) := by
      intro i b hb
      match i, hb with
      | 0, hb => exact .inl ⟨by decide, hb⟩
      | 1, hb => exact .inl ⟨by decide, hb⟩
      | 2, hb => exact .inl ⟨by decide, hb⟩
      | 3, hb => exact .inr ⟨rfl, by have : q6 = b := by simpa [obk] using hb
                                     exact this.symm⟩
      | c + 4, hb => exact .inl ⟨by omega, hb⟩
    rcases key i b hi with ⟨a1, a2⟩ | ⟨a1, a2⟩ <;> rcases key j b hj with ⟨c1, c2⟩ | ⟨c1, c2⟩
    · exact h.dis i j b a2 c2
    · have := h.obI i b a2; omega
    · have := h.obI j b c2; omega
    · omega
end LW
end Go.Proofs.Ytheifjakpdeiaaa
