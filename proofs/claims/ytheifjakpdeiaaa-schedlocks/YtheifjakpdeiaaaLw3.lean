/-
  What the program's calls are asked; the laws on Valid, Play, Ready.
-/
import Derived.Test.YtheifjakpdeiaaaLw2
import Derived.Test.YtheifjakpdeiaaaHnd
import Derived.Maps.AppendAt
import Derived.Laws.AppendOwnNone
namespace Go.Proofs.Ytheifjakpdeiaaa
open Go.RowKit
set_option linter.unusedVariables false
set_option linter.unusedSimpArgs false
namespace LW
open Mc
def s00 : St := ⟨[], [], [], [], [], [], []⟩
/-- What the program's Valid is asked. -/
def PValid : Prop := ∀ (s : Syst) (pa : Option Addr) (pc : Nat) (ra : Option Addr) (rc : Nat) (w : World), SyI w s pa ra → Calls Try.prog 9 #[.agg (syC s pa pc ra rc)] w fun e w' => ∃ x : Int, e = .returned (.int .i64 x) ∧ (Ok s → x = 0) ∧ (¬ Ok s → x = 130) ∧ Below w.heap.size w w'
/-- What Play leaves. -/
def PlaP (w : World) (s : Syst) (picks : List Int) : Ending → World → Prop := fun e w' => ∃ (cs : Array Value) (x : Int) (r : Int × Int × St), e = .returned (.tuple #[.agg cs, .int .i64 x]) ∧ RunL w' r cs ∧ Below w.heap.size w w' ∧ (Ok s → x = 0 ∧ r = Mc.play s picks) ∧ (¬ Ok s → x = 130 ∧ r = (0, 0, s00))
/-- What the program's Play is asked. -/
def PPlay : Prop := ∀ (s : Syst) (pa : Option Addr) (pc : Nat) (ra : Option Addr) (rc : Nat) (a : Option Addr) (c : Nat) (picks : List Int) (w : World), SyI w s pa ra → PkI w a c picks → Calls Try.prog 12 #[.agg (syC s pa pc ra rc), .slice a picks.length c] w (PlaP w s picks)
theorem play_len (s : Syst) (picks : List Int) : (Mc.play s picks).2.2.evs.length ≤ 40000 := (run_ends s picks 40001 (Mc.first s) (by simp [Mc.first]) (by simp [Mc.first])).2
theorem step_cells (s : Syst) (t : St) (k : Nat) : (Mc.step s t k).cells.length = t.cells.length := by
  unfold Mc.step
  split
  · rfl
  · show (act s t k).st.cells.length = _
    unfold act chan shar
    repeat' split
    all_goals simp
theorem run_cells (s : Syst) (picks : List Int) : ∀ f t, (run s picks f t).2.2.cells.length = t.cells.length
  | 0, t => rfl
  | f + 1, t => by
    unfold run
    split
    · rfl
    · split
      · exact step_cells s t _
      · rw [run_cells s picks f, step_cells]
theorem play_cells {s : Syst} (h : Ok s) (picks : List Int) : (Mc.play s picks).2.2.cells.length ≤ 64 := by
  unfold Mc.play
  rw [run_cells]
  have := h.c1
  simp [Mc.first]
  omega
theorem er_own {w : World} {B : Nat} {v : Value} {l : List Ev} (h : w.ownsRow B 36 5 v l.length (evC l)) : ∃ a c, v = .slice a l.length c ∧ ER w a l := by
  rcases h.2 with ⟨rfl, h0⟩ | ⟨g, cap, cur, rfl, _⟩
  · exact ⟨none, 0, by rw [h0], .inl (List.length_eq_zero_iff.1 h0)⟩
  · refine ⟨_, cap, rfl, ?_⟩
    rcases Nat.eq_zero_or_pos l.length with h0 | h0
    · exact .inl (List.length_eq_zero_iff.1 h0)
    · refine .inr ⟨g, 0, rfl, fun j hj => ?_⟩
      have hr := own_rdA h rfl h0
      have hg := fun r hr => flC_get 5 evV ⟨0, 0, 0, 0, false⟩ l j r hj hr
      simp only [Nat.zero_add]
      exact ⟨hr _ _ (hg 0 (by omega)), hr _ _ (hg 1 (by omega)), hr _ _ (hg 2 (by omega)), hr _ _ (hg 3 (by omega)), hr _ _ (hg 4 (by omega))⟩
theorem nr_own {w : World} {B : Nat} {v : Value} {l : List Int} (h : w.ownsRow B 3 1 v l.length (l.map (Value.int .i64))) : ∃ a c, v = .slice a l.length c ∧ NR w a l := by
  obtain ⟨a, c, e, h2⟩ := own_read1 0 h rfl
  refine ⟨a, c, e, ?_⟩
  rcases h2 with h2 | ⟨b, e2, hc⟩
  · exact .inl h2
  · exact .inr ⟨b, 0, e2, fun j hj => by rw [Nat.zero_add]; exact hc j hj⟩
set_option maxRecDepth 100000 in
/-- Append of a list of numbers, wherever it lies, to a row of one's own. -/
theorem wpList_app_ints {w : World} {ops : Array Oper} {rest : List Oper} {o : Oper} {a : Act} {Q : Exit → Act → World → Prop} (hgd : o.guard = none) (s x : Operand)
    (ho : o.op = .call { callee := .builtin .append, args := #[s, x], argTypes := #[23, 23] }) (B : Nat) (v : Value) (n : Nat) (ys : List Value) (hs : a.eval s = v) (hown : w.ownsRow B 3 1 v n ys) (b : Option Addr) (cap : Nat) (xs : List Int) (len : Nat) (hlen : xs.length = len) (hx : a.eval x = .slice b len cap)
    (hr : NR w b xs) (hn : b = none → cap = 0) (hm : n + len ≤ 17592186044416) (hB : B ≤ w.heap.size)
    (h : ∀ x' w', w'.ownsRow B 3 1 x' (n + len) (ys ++ xs.map (Value.int .i64)) → w.grownBy w' v.ownBlock → wpList Try.prog ops Q rest (a.put o.dst x') w') : wpList Try.prog ops Q (o :: rest) a w := by
  obtain ⟨i0, hi, hz0, hz1, hz2⟩ := info_parts' intinfo
  subst hlen
  cases b with
  | none =>
    obtain rfl := hn rfl
    obtain rfl : xs = [] := by rcases hr with h | ⟨b, off, h, _⟩ <;> first | exact h | cases h
    refine wpList_append_own_none hgd s x 23 ho B 3 i0 1 Try.underlying23 hi _ n ys hs hown hx (h _ _ (by simpa using hown) ⟨rfl, rfl, rfl, Nat.le_refl _, fun _ _ _ => rfl⟩)
  | some ad =>
    refine wpList_append_own _ hgd s x 23 ho B 3 i0 (.int .i64 0) 1 8 Try.underlying23 hi hz0 hz1 hz2 rfl (by decide) v n ys hs hown ad xs.length cap (xs.map (Value.int .i64)) hx (by simp) (fun j u hj => ?_) (fun u hu => ?_) (by unfold maxLen; omega) (by omega) hB ?_
    · have hj' : j < xs.length := by
        have := (List.getElem?_eq_some_iff.1 hj).1
        simpa using this
      rcases hr with h | ⟨b, off, e, hc⟩
      · rw [h] at hj'; simp at hj'
      · injection e with e
        subst e
        rw [Addr.add_mid, hc j hj']
        rw [List.getElem?_map, List.getElem?_eq_getElem hj'] at hj
        rw [List.getD_eq_getElem?_getD, List.getElem?_eq_getElem hj']
        exact hj
    · obtain ⟨z, _, rfl⟩ := List.mem_map.1 hu
      rfl
    · intro v' w2 hown' hgrow' _
      exact h _ _ hown' hgrow'
end LW
end Go.Proofs.Ytheifjakpdeiaaa
