/-
  What guards tells.
-/
import Derived.Test.YtlnlkhbegdifkaaTkF
namespace Go.Proofs.Ytlnlkhbegdifkaa
open Go.RowKit
set_option linter.unusedVariables false
set_option linter.unusedSimpArgs false
namespace LW
open Mc
/-- Is an event an access of a cell? -/
def acB (e : Ev) (cell : Int) : Bool := decide ((e.op = 12 ∨ e.op = 13) ∧ e.a = cell)
/-- Does an event leave a lock a guard? -/
def gB (l : List Ev) (cell : Int) (j : Nat) (x : Int) : Bool := if acB (Tr.ev l j) cell then decide (Tr.hdC (l.take j) x = some (Tr.ev l j).who) else if (Tr.ev l j).op = 9 ∧ (Tr.ev l j).a = x then decide (Tr.hdC (l.take j) x = some (Tr.ev l j).who) else true
/-- The guards so far. -/
def guL (L : Nat) (l : List Ev) (cell : Int) (k : Nat) : List Int := (lkL L).filter (fun x => (List.range k).all (fun j => gB l cell j x))
/-- Was the cell touched so far? -/
def guT (l : List Ev) (cell : Int) (k : Nat) : Bool := (List.range k).any (fun j => acB (Tr.ev l j) cell)
theorem guL_zero (L : Nat) (l : List Ev) (cell : Int) : guL L l cell 0 = lkL L := by
  unfold guL
  simp
theorem guL_succ (L : Nat) (l : List Ev) (cell : Int) (k : Nat) : guL L l cell (k + 1) = (guL L l cell k).filter (gB l cell k) := by
  unfold guL
  rw [List.filter_filter]
  congr 1
  funext x
  rw [List.range_succ, List.all_append, Bool.and_comm]
  simp
theorem guT_succ (l : List Ev) (cell : Int) (k : Nat) : guT l cell (k + 1) = (guT l cell k || acB (Tr.ev l k) cell) := by
  unfold guT
  rw [List.range_succ, List.any_append]
  simp
theorem guL_mem (L : Nat) (l : List Ev) (cell : Int) (k : Nat) : ∀ x ∈ guL L l cell k, 0 ≤ x ∧ x < (L : Int) := fun x hx => lkL_mem L x (List.mem_filter.1 hx).1
theorem guL_len (L : Nat) (l : List Ev) (cell : Int) (k : Nat) : (guL L l cell k).length ≤ L := by
  have := List.length_filter_le (fun x => (List.range k).all (fun j => gB l cell j x)) (lkL L)
  rw [lkL_len] at this
  exact this
theorem step_A {L : Nat} {l : List Ev} {cell : Int} {k : Nat} (h : acB (Tr.ev l k) cell = true) : (guL L l cell k).filter (fun x => !(!decide (Tr.hdC (l.take k) x = some (Tr.ev l k).who))) = guL L l cell (k + 1) := by
  rw [guL_succ]
  congr 1
  funext x
  unfold gB
  rw [if_pos h, Bool.not_not]
theorem step_B {L : Nat} {l : List Ev} {cell : Int} {k : Nat} (h : acB (Tr.ev l k) cell = false) (h9 : (Tr.ev l k).op = 9) (hb : decide (Tr.hdC (l.take k) (Tr.ev l k).a = some (Tr.ev l k).who) = false) : (guL L l cell k).filter (fun x => !(x == (Tr.ev l k).a)) = guL L l cell (k + 1) := by
  rw [guL_succ]
  congr 1
  funext x
  unfold gB
  rw [if_neg (by rw [h]; simp)]
  by_cases e : (Tr.ev l k).a = x
  · subst e
    rw [if_pos ⟨h9, rfl⟩, hb]
    simp
  · rw [if_neg (fun h => e h.2)]
    simp
    exact fun h => e h.symm
theorem step_C {L : Nat} {l : List Ev} {cell : Int} {k : Nat} (h : acB (Tr.ev l k) cell = false) (hb : (Tr.ev l k).op = 9 → decide (Tr.hdC (l.take k) (Tr.ev l k).a = some (Tr.ev l k).who) = true) : guL L l cell (k + 1) = guL L l cell k := by
  rw [guL_succ, List.filter_eq_self]
  intro x _
  unfold gB
  rw [if_neg (by rw [h]; simp)]
  split
  · rename_i h2
    rw [← h2.2]
    exact hb h2.1
  · rfl
set_option maxRecDepth 100000 in
set_option maxHeartbeats 4000000 in
theorem pisAcc (who op a va : Int) (sh : Bool) (w : World) : Calls Try.prog 35 #[.agg #[.int .i64 who, .int .i64 op, .int .i64 a, .int .i64 va, .bool sh]] w fun e w' => e = .returned (.bool (decide (op = 12 ∨ op = 13))) ∧ Below w.heap.size w w' := by
  have hA : Below w.heap.size w (w.alloc (.cells #[.int .i64 who, .int .i64 op, .int .i64 a, .int .i64 va, .bool sh] 51)) := (Below.refl _ _).alloc (Nat.le_refl _) _
  have N1 : Hid ((w.alloc (.cells #[.int .i64 who, .int .i64 op, .int .i64 a, .int .i64 va, .bool sh] 51)).heap[w.heap.size]? = some (.cells #[.int .i64 who, .int .i64 op, .int .i64 a, .int .i64 va, .bool sh] 51 (0, 0))) := heap_alloc_new w _
  have NB := TW.hide hA
  clear hA
  go_enter Try.func35, Try.ntmps35
  refine wp_seq_k fun K hK => ?_
  have HK := TW.hide hK
  clear hK
  go_wp2
  refine HK.out _ _ ?_
  clear HK K
  generalize w.alloc _ = X at *
  obtain ⟨x0, x1, x2, x3, x4⟩ := cellsY5 N1.out
  by_cases h12 : op = 12
  · have k12 : (op == 12) = true := by simp [h12]
    have HD : Hid (decide (op = 12 ∨ op = 13) = true) := by show _ = _; simp [h12]
    rw [HD.out]
    clear h12 HD
    go_wp2
    go_ret
    exact ⟨rfl, NB.out⟩
  · have k12 : (op == 12) = false := by simp [h12]
    have HD : Hid (decide (op = 12 ∨ op = 13) = (op == 13)) := by
      show _ = _
      by_cases h : op = 13 <;> simp [h, h12]
    rw [HD.out]
    clear h12 HD
    go_wp2
    go_ret
    exact ⟨rfl, NB.out⟩
set_option maxRecDepth 100000 in
set_option maxHeartbeats 4000000 in
theorem pclB (g1 g2 bm : Nat) (p : List Ev) (who op a va : Int) (sh : Bool) (x : Int) (w : World) (h1 : w.heap[g1]? = some (.cells #[.map (some bm)] 60 (0, 0))) (h2 : w.heap[g2]? = some (.cells #[.int .i64 who, .int .i64 op, .int .i64 a, .int .i64 va, .bool sh] 51 (0, 0))) (hm : MpI w bm p) (hx : i64 x) :
    Calls Try.prog 36 #[.int .i64 x, .pointer (some ⟨g1, 0, none⟩), .pointer (some ⟨g2, 0, none⟩)] w fun e w' => e = .returned (.bool (!decide (Tr.hdC p x = some who))) ∧ Below w.heap.size w w' := by
  have HBy := TW.hide (pby bm p who x w hm hx)
  have q1 : w.cell? ⟨g1, 0, none⟩ = some (.map (some bm)) := blk_cell h1 rfl
  obtain ⟨x0, x1, x2, x3, x4⟩ := cellsY5 h2
  generalize decide (Tr.hdC p x = some who) = dd at *
  clear h1 h2 hm
  go_enter Try.func36, Try.ntmps36
  go_wp2_with fail
  refine HBy.out.mono ?_
  rintro e1 w1 ⟨rfl, hb⟩
  go_wp2
  go_ret
  exact ⟨rfl, hb⟩
set_option maxRecDepth 100000 in
set_option maxHeartbeats 4000000 in
theorem pclC (g1 : Nat) (who op a va : Int) (sh : Bool) (x : Int) (w : World) (h2 : w.heap[g1]? = some (.cells #[.int .i64 who, .int .i64 op, .int .i64 a, .int .i64 va, .bool sh] 51 (0, 0))) :
    Calls Try.prog 37 #[.int .i64 x, .pointer (some ⟨g1, 0, none⟩)] w fun e w' => e = .returned (.bool (x == a)) ∧ Below w.heap.size w w' := by
  obtain ⟨x0, x1, x2, x3, x4⟩ := cellsY5 h2
  clear h2
  go_enter Try.func37, Try.ntmps37
  go_wp2
  go_ret
  exact ⟨rfl, Below.refl _ _⟩
/-- All blocks but two stand. -/
structure Gr2 (w w' : World) (a b : Nat) : Prop where
  os : w'.os = w.os
  tape : w'.tape = w.tape
  output : w'.output = w.output
  size : w.heap.size ≤ w'.heap.size
  block : ∀ k, k < w.heap.size → k ≠ a → k ≠ b → w'.heap[k]? = w.heap[k]?
theorem Gr2.refl (w : World) (a b : Nat) : Gr2 w w a b := ⟨rfl, rfl, rfl, Nat.le_refl _, fun _ _ _ _ => rfl⟩
theorem Gr2.below {w w' w'' : World} {a b : Nat} (h : Gr2 w w' a b) (hb : Below w'.heap.size w' w'') : Gr2 w w'' a b :=
  ⟨hb.os.trans h.os, hb.tape.trans h.tape, hb.output.trans h.output, Nat.le_trans h.size hb.size, fun k hk ha hb' => by rw [hb.block k (Nat.lt_of_lt_of_le hk h.size)]; exact h.block k hk ha hb'⟩
theorem Gr2.grown {w w' w'' : World} {a b c : Nat} (h : Gr2 w w' a b) (hg : w'.grownBy w'' (some c)) (hc : c = a ∨ c = b) : Gr2 w w'' a b :=
  ⟨hg.os.trans h.os, hg.tape.trans h.tape, hg.output.trans h.output, Nat.le_trans h.size hg.size, fun k hk ha hb' => by
    rw [hg.block k (Nat.lt_of_lt_of_le hk h.size) (fun e => by injection e with e; rcases hc with rfl | rfl; exact ha e; exact hb' e)]
    exact h.block k hk ha hb'⟩
theorem Gr2.to {B : Nat} {o w w' : World} {a b : Nat} (h : Gr2 w w' a b) (ho : Below B o w) (ha : B ≤ a) (hb : B ≤ b) (hB : B ≤ w.heap.size) : Below B o w' :=
  ⟨h.os.trans ho.os, h.tape.trans ho.tape, h.output.trans ho.output, Nat.le_trans ho.size h.size, fun k hk => by rw [h.block k (by omega) (by omega) (by omega)]; exact ho.block k hk⟩
theorem MpI.neR {w : World} {B bm b cap : Nat} {p : List Ev} {xs : List Int} (h : MpI w bm p) (hn : Nr B w b cap xs) : bm ≠ b := by
  rcases hn.2 with ⟨e, _⟩ | ⟨g, cap', cur, e, _, hh, _⟩
  · cases e
  · injection e with e
    injection e with e
    injection e with e
    subst e
    exact h.ne hh
end LW
end Go.Proofs.Ytlnlkhbegdifkaa
