/-
  What the small calls of the program and of the document on kinds, lanes and blocks give.
-/
import Derived.Test.YthbakhgfnfdahabSmall
import Derived.Test.YthbakhgfnfdahabLaneL
import Derived.Test.YthbakhgfnfdahabOrder
import Derived.Test.YthbakhgfnfdahabCheck
namespace Go.Proofs.Ythbakhgfnfdahab
open Go.RowKit
set_option linter.unusedVariables false
set_option linter.unusedSimpArgs false
namespace LW
open Words
/-- How many lanes a kind has. -/
def nl (k : Int) : Nat := if k = 1 then 4 else if k = 2 then 8 else 0
/-- The bytes of a block, as the program has them. -/
def bb (k : Int) : Nat := if k = 2 then 64 else 128
/-- The cells of what a message's nodes share. -/
def shC (k d y : Int) (s p : Value) : Array Value := #[.int .i64 k, .int .i64 d, .int .i64 y, s, p]
theorem cells5 {w : World} {b : Nat} {t : TypeId} {v0 v1 v2 v3 v4 : Value} (h : w.heap[b]? = some (.cells #[v0, v1, v2, v3, v4] t (0, 0))) :
    w.cell? ⟨b, 0, none⟩ = some v0 ∧ w.cell? ⟨b, 1, none⟩ = some v1 ∧ w.cell? ⟨b, 2, none⟩ = some v2 ∧ w.cell? ⟨b, 3, none⟩ = some v3 ∧ w.cell? ⟨b, 4, none⟩ = some v4 := by
  simp [World.cell?, h]
theorem sh_info (k d y : Int) (s p : Value) : (Try.prog.info? 36).map (·.size) = some (shC k d y s p).size := by
  show _ = some 5
  kernel_rfl
theorem exec_load_row' {P : Program} {o : Oper} {a : Act} {w : World} (ty : TypeId) (x : Operand) (ho : o.op = .load ty x) (g : Nat) (hx : a.eval x = .pointer (some ⟨g, 0, none⟩)) (t : TypeId) (cs : Array Value) (fr : Nat × Nat) (d : TypeDesc)
    (hg : w.heap[g]? = some (.cells cs t fr)) (hu : P.underlying ty = some d) (hd : (match d with | .struct _ | .array _ _ => true | _ => false) = true) (hi : (P.info? ty).map (·.size) = some cs.size) :
    (execOp a.eval o).run P w = .ok (.value (.agg cs)) w := by
  unfold execOp
  simp only [ho, hx, Instr.loadAt, Instr.sureAddr, Sem.run_bind, Sem.run_pure, Result.andThen_ok, run_loadVar_row w g t ty cs fr d hg hu hd hi]
theorem lanes (k d y : Int) (s p : Value) (w : World) : Calls Try.prog 12 #[.agg (shC k d y s p)] w fun e w' => e = .returned (.int .i64 (nl k)) ∧ Below w.heap.size w w' := by
  have hb : Below w.heap.size w (w.alloc (.cells #[.int .i64 k, .int .i64 d, .int .i64 y, s, p] 36)) := (Below.refl _ _).alloc (Nat.le_refl _) _
  have HB := TW.hide hb
  clear hb
  unfold shC
  rcases kinds k with rfl | rfl | ⟨h1, h2⟩
  · go_enter Try.func12, Try.ntmps12
    go_wp2
    go_ret
    exact ⟨rfl, HB.out⟩
  · go_enter Try.func12, Try.ntmps12
    go_wp2
    go_ret
    exact ⟨rfl, HB.out⟩
  · have e1 : (k == 1) = false := by simp [h1]
    have e2 : (k == 2) = false := by simp [h2]
    have e3 : nl k = 0 := by simp [nl, h1, h2]
    rw [e3]
    clear h1 h2
    go_enter Try.func12, Try.ntmps12
    go_wp2
    go_ret
    exact ⟨rfl, HB.out⟩
theorem blockBytes (k d y : Int) (s p : Value) (w : World) : Calls Try.prog 14 #[.agg (shC k d y s p)] w fun e w' => e = .returned (.int .i64 (bb k)) ∧ Below w.heap.size w w' := by
  have hb : Below w.heap.size w (w.alloc (.cells #[.int .i64 k, .int .i64 d, .int .i64 y, s, p] 36)) := (Below.refl _ _).alloc (Nat.le_refl _) _
  have HB := TW.hide hb
  clear hb
  unfold shC
  by_cases h2 : k = 2
  · subst h2
    go_enter Try.func14, Try.ntmps14
    go_wp2
    go_ret
    exact ⟨rfl, HB.out⟩
  · have e2 : (k == 2) = false := by simp [h2]
    have e3 : bb k = 128 := by simp [bb, h2]
    rw [e3]
    clear h2
    go_enter Try.func14, Try.ntmps14
    go_wp2
    go_ret
    exact ⟨rfl, HB.out⟩
/-- What Count answers besides. -/
theorem ke_nl (k : Int) : (nl k = 0 ∧ ke k = 1) ∨ (0 < nl k ∧ ke k = 0) := by
  rcases kinds k with rfl | rfl | ⟨h1, h2⟩
  · exact .inr ⟨by decide, by decide⟩
  · exact .inr ⟨by decide, by decide⟩
  · exact .inl ⟨by simp [nl, h1, h2], by simp [ke, h1, h2]⟩
theorem count (k : Int) (w : World) : Calls Try.prog 8 #[.int .i64 k] w fun e w' => e = .returned (.tuple #[.int .i64 (nl k), .int .i64 (ke k)]) ∧ Below w.heap.size w w' := by
  have HL := TW.hide (lanes k 0 0 (.slice none 0 0) (.slice none 0 0) w)
  unfold shC at HL
  rcases ke_nl k with ⟨h1, h2⟩ | ⟨h1, h2⟩
  · rw [h1] at HL ⊢
    rw [h2]
    clear h1 h2
    go_enter Try.func8, Try.ntmps8
    go_wp2_with fail
    refine HL.out.mono ?_
    rintro e w1 ⟨rfl, hb⟩
    have HB := TW.hide hb
    clear hb
    go_wp2
    go_ret2
    exact ⟨rfl, HB.out⟩
  · rw [h2]
    obtain ⟨m, hm⟩ : ∃ m, nl k = m := ⟨_, rfl⟩
    rw [hm] at HL h1 ⊢
    have h3 : ((m : Int) == 0) = false := by simp; omega
    clear h1 h2 hm
    go_enter Try.func8, Try.ntmps8
    go_wp2_with fail
    refine HL.out.mono ?_
    rintro e w1 ⟨rfl, hb⟩
    have HB := TW.hide hb
    clear hb
    go_wp2
    go_ret2
    exact ⟨rfl, HB.out⟩
end LW
end Go.Proofs.Ythbakhgfnfdahab
