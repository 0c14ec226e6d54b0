/-
  The machine of layer 13 (sched) as plain mathematics: states, steps, runs; what runs by two pick lists have in common.
-/
import Derived.Tactics
namespace Go.Proofs.Ytnfimdcpocooiaa
open Go
set_option linter.unusedVariables false
set_option linter.unusedSimpArgs false
namespace Mc
/-- An instruction. -/
structure Ins where
  op : Int
  a : Int
  b : Int
  c : Int
/-- A system. -/
structure Syst where
  progs : List (List Ins)
  rooms : List Int
  groups : Int
  locks : Int
  cells : Int
/-- A runner. -/
structure Rn where
  prog : Int
  pos : Int
  regs : List Int
  ended : Bool
/-- What a step tells. -/
structure Ev where
  who : Int
  op : Int
  a : Int
  value : Int
  shut : Bool
/-- All there is while it runs. -/
structure St where
  rns : List Rn
  held : List (List Int)
  shut : List Bool
  locked : List Bool
  groups : List Int
  cells : List Int
  evs : List Ev
def i0 : Ins := ⟨0, 0, 0, 0⟩
def r0 : Rn := ⟨0, 0, [], true⟩
def pg (s : Syst) (p : Int) : List Ins := s.progs.getD p.toNat []
def rn (t : St) (k : Nat) : Rn := t.rns.getD k r0
def ins (s : Syst) (t : St) (k : Nat) : Ins := (pg s (rn t k).prog).getD (rn t k).pos.toNat i0
def reg (t : St) (k : Nat) (r : Int) : Int := (rn t k).regs.getD r.toNat 0
/-- The rest, 0 or more. -/
def rest (x n : Int) : Int := x % n
/-- Can a runner go on? -/
def can (s : Syst) (t : St) (k : Nat) : Bool :=
  if (rn t k).ended then false
  else if (ins s t k).op = 5 then t.shut.getD (ins s t k).a.toNat false || decide (((t.held.getD (ins s t k).a.toNat []).length : Int) < s.rooms.getD (ins s t k).a.toNat 0)
  else if (ins s t k).op = 6 then t.shut.getD (ins s t k).a.toNat false || decide (0 < (t.held.getD (ins s t k).a.toNat []).length)
  else if (ins s t k).op = 8 then !(t.locked.getD (ins s t k).a.toNat false)
  else if (ins s t k).op = 11 then decide (t.groups.getD (ins s t k).a.toNat 0 = 0)
  else true
def ready (s : Syst) (t : St) : List Nat := (List.range t.rns.length).filter (can s t)
def over (t : St) : Bool := t.rns.all (fun r => r.ended)
/-- How a run ends here; 0: it goes on. -/
def fin (s : Syst) (t : St) : Int := if over t then 1 else if 40000 ≤ t.evs.length then 4 else if ready s t = [] then 2 else 0
/-- A runner with a register set. -/
def setR (t : St) (k : Nat) (r v : Int) : List Rn := t.rns.set k { rn t k with regs := (rn t k).regs.set r.toNat v }
/-- A runner at another place (one ahead of where it goes on). -/
def setP (t : St) (k : Nat) (p : Int) : List Rn := t.rns.set k { rn t k with pos := p }
/-- The place behind a step: one on; ended, where that is behind the last instruction. -/
def on (s : Syst) (rs : List Rn) (k : Nat) : List Rn :=
  rs.set k { rs.getD k r0 with pos := (rs.getD k r0).pos + 1, ended := (rs.getD k r0).ended || decide (((pg s (rs.getD k r0).prog).length : Int) ≤ (rs.getD k r0).pos + 1) }
/-- What touches nothing but the runner. -/
def own (s : Syst) (t : St) (k : Nat) : List Rn :=
  if (ins s t k).op = 1 then setR t k (ins s t k).a (ins s t k).b
  else if (ins s t k).op = 2 then setR t k (ins s t k).a (IntKind.i64.wrap (reg t k (ins s t k).a + reg t k (ins s t k).b))
  else if (ins s t k).op = 3 then (if reg t k (ins s t k).a < reg t k (ins s t k).b then setP t k ((ins s t k).c - 1) else t.rns)
  else if (ins s t k).op = 4 then setP t k ((ins s t k).c - 1)
  else if (ins s t k).op = 16 then t.rns.set k { rn t k with ended := true }
  else t.rns
/-- What an instruction answers: of the event A, Value and Shut; the error; the state without event and place. -/
structure An where
  a : Int
  v : Int
  sh : Bool
  er : Int
  st : St
/-- Send, take, close. -/
def chan (s : Syst) (t : St) (k : Nat) : An :=
  if (ins s t k).op = 5 then
    (if t.shut.getD (ins s t k).a.toNat false then ⟨(ins s t k).a, reg t k (ins s t k).b, false, 131, t⟩
    else ⟨(ins s t k).a, reg t k (ins s t k).b, false, 0, { t with held := t.held.set (ins s t k).a.toNat (t.held.getD (ins s t k).a.toNat [] ++ [reg t k (ins s t k).b]) }⟩)
  else if (ins s t k).op = 6 then
    (if t.held.getD (ins s t k).a.toNat [] = [] then ⟨(ins s t k).a, reg t k (ins s t k).b, true, 0, { t with rns := setP t k ((ins s t k).c - 1) }⟩
    else ⟨(ins s t k).a, (t.held.getD (ins s t k).a.toNat []).headD 0, false, 0, { t with held := t.held.set (ins s t k).a.toNat (t.held.getD (ins s t k).a.toNat []).tail, rns := setR t k (ins s t k).b ((t.held.getD (ins s t k).a.toNat []).headD 0) }⟩)
  else if t.shut.getD (ins s t k).a.toNat false then ⟨(ins s t k).a, 0, false, 132, t⟩
  else ⟨(ins s t k).a, 0, false, 0, { t with shut := t.shut.set (ins s t k).a.toNat true }⟩
/-- Which cell a register tells. -/
def cel (s : Syst) (t : St) (k : Nat) : Int := rest (reg t k (ins s t k).a) t.cells.length
def grp (s : Syst) (t : St) (k : Nat) : Int := IntKind.i64.wrap (t.groups.getD (ins s t k).a.toNat 0 + (ins s t k).b)
/-- Locks, groups, cells, programs, works. -/
def shar (s : Syst) (t : St) (k : Nat) : An :=
  if (ins s t k).op = 8 then ⟨(ins s t k).a, 0, false, 0, { t with locked := t.locked.set (ins s t k).a.toNat true }⟩
  else if (ins s t k).op = 9 then
    (if t.locked.getD (ins s t k).a.toNat false then ⟨(ins s t k).a, 0, false, 0, { t with locked := t.locked.set (ins s t k).a.toNat false }⟩ else ⟨(ins s t k).a, 0, false, 133, t⟩)
  else if (ins s t k).op = 10 then
    (if grp s t k < 0 then ⟨(ins s t k).a, grp s t k, false, 134, t⟩ else ⟨(ins s t k).a, grp s t k, false, 0, { t with groups := t.groups.set (ins s t k).a.toNat (grp s t k) }⟩)
  else if (ins s t k).op = 12 then ⟨cel s t k, t.cells.getD (cel s t k).toNat 0, false, 0, { t with rns := setR t k (ins s t k).b (t.cells.getD (cel s t k).toNat 0) }⟩
  else if (ins s t k).op = 13 then ⟨cel s t k, reg t k (ins s t k).b, false, 0, { t with cells := t.cells.set (cel s t k).toNat (reg t k (ins s t k).b) }⟩
  else if (ins s t k).op = 14 then
    (if 512 ≤ t.rns.length then ⟨(ins s t k).a, 0, false, 135, t⟩
    else ⟨(ins s t k).a, t.rns.length, false, 0, { t with rns := t.rns ++ [⟨(ins s t k).a, 0, (rn t k).regs, (pg s (ins s t k).a).isEmpty⟩] }⟩)
  else if (ins s t k).op = 15 then ⟨(ins s t k).a, reg t k (ins s t k).b, false, 0, t⟩
  else ⟨(ins s t k).a, 0, false, 0, t⟩
def act (s : Syst) (t : St) (k : Nat) : An :=
  if 5 ≤ (ins s t k).op ∧ (ins s t k).op ≤ 7 then chan s t k
  else if 8 ≤ (ins s t k).op ∧ (ins s t k).op ≤ 15 then shar s t k
  else ⟨0, 0, false, 0, { t with rns := own s t k }⟩
def ev (s : Syst) (t : St) (k : Nat) : Ev := ⟨k, (ins s t k).op, (act s t k).a, (act s t k).v, (act s t k).sh⟩
def bad (s : Syst) (t : St) (k : Nat) : Int := (act s t k).er
/-- A step: where it is an error, nothing but its event. -/
def step (s : Syst) (t : St) (k : Nat) : St :=
  if bad s t k ≠ 0 then { t with evs := t.evs ++ [ev s t k] }
  else { (act s t k).st with rns := on s (act s t k).st.rns k, evs := t.evs ++ [ev s t k] }
/-- Whose turn it is. -/
def turn (s : Syst) (picks : List Int) (t : St) : Nat :=
  (ready s t).getD (if t.evs.length < picks.length then (rest (picks.getD t.evs.length 0) (ready s t).length).toNat else 0) 0
/-- A run: its end, its fault, the last state. -/
def run (s : Syst) (picks : List Int) : Nat → St → Int × Int × St
  | 0, t => (0, 0, t)
  | f + 1, t => if fin s t ≠ 0 then (fin s t, 0, t)
    else if bad s t (turn s picks t) ≠ 0 then (3, bad s t (turn s picks t), step s t (turn s picks t))
    else run s picks f (step s t (turn s picks t))
def first (s : Syst) : St := ⟨[⟨0, 0, List.replicate 8 0, (pg s 0).isEmpty⟩], s.rooms.map (fun _ => []), s.rooms.map (fun _ => false), List.replicate s.locks.toNat false, List.replicate s.groups.toNat 0, List.replicate s.cells.toNat 0, []⟩
def play (s : Syst) (picks : List Int) : Int × Int × St := run s picks 40001 (first s)
theorem chan_cases (s : Syst) (t : St) (k : Nat) (P : An → Prop) (h : ∀ a v sh er rs hd st, P ⟨a, v, sh, er, ⟨rs, hd, st, t.locked, t.groups, t.cells, t.evs⟩⟩) : P (chan s t k) := by
  unfold chan
  split
  · split <;> exact h ..
  · split
    · split <;> exact h ..
    · split <;> exact h ..
theorem shar_cases (s : Syst) (t : St) (k : Nat) (P : An → Prop) (h : ∀ a v sh er rs lo gr ce, P ⟨a, v, sh, er, ⟨rs, t.held, t.shut, lo, gr, ce, t.evs⟩⟩) : P (shar s t k) := by
  unfold shar
  repeat' split
  all_goals exact h ..
theorem act_evs (s : Syst) (t : St) (k : Nat) : (act s t k).st.evs = t.evs := by
  unfold act
  split
  · exact chan_cases s t k (fun x => x.st.evs = t.evs) (fun _ _ _ _ _ _ _ => rfl)
  · split
    · exact shar_cases s t k (fun x => x.st.evs = t.evs) (fun _ _ _ _ _ _ _ _ => rfl)
    · rfl
theorem step_evs (s : Syst) (t : St) (k : Nat) : (step s t k).evs = t.evs ++ [ev s t k] := by
  unfold step
  split <;> rfl
theorem fin_len {s : Syst} {t : St} (h : fin s t = 0) : t.evs.length < 40000 := by
  unfold fin at h
  split at h
  · cases h
  · split at h
    · cases h
    · omega
/-- A run goes on from what was told. -/
theorem run_evs (s : Syst) (picks : List Int) : ∀ f t, ∃ l, (run s picks f t).2.2.evs = t.evs ++ l
  | 0, t => ⟨[], by simp [run]⟩
  | f + 1, t => by
    unfold run
    split
    · exact ⟨[], by simp⟩
    · split
      · exact ⟨[ev s t (turn s picks t)], step_evs s t _⟩
      · obtain ⟨l, h⟩ := run_evs s picks f (step s t (turn s picks t))
        exact ⟨ev s t (turn s picks t) :: l, by rw [h, step_evs]; simp⟩
/-- A run ends: there are at most 40000 steps. -/
theorem run_ends (s : Syst) (picks : List Int) : ∀ f t, 40001 ≤ f + t.evs.length → t.evs.length ≤ 40000 → (run s picks f t).1 ≠ 0 ∧ (run s picks f t).2.2.evs.length ≤ 40000
  | 0, t, h, h' => by omega
  | f + 1, t, h, h' => by
    unfold run
    split
    · rename_i hf
      exact ⟨hf, h'⟩
    · rename_i hf
      have hl := fin_len (by simpa using hf)
      split
      · exact ⟨by show (3 : Int) ≠ 0; decide, by rw [step_evs]; simp; omega⟩
      · exact run_ends s picks f _ (by rw [step_evs]; simp; omega) (by rw [step_evs]; simp; omega)
theorem turn_more (s : Syst) (picks more : List Int) (t : St) (h : t.evs.length < picks.length) : turn s (picks ++ more) t = turn s picks t := by
  unfold turn
  rw [if_pos h, if_pos (by simp; omega), List.getD_eq_getElem?_getD, List.getD_eq_getElem?_getD, List.getElem?_append_left h, ← List.getD_eq_getElem?_getD]
  rfl
/-- Runs by two pick lists of which one begins with the other. -/
theorem run_begins (s : Syst) (picks more : List Int) : ∀ f t, 40001 ≤ f + t.evs.length → t.evs.length ≤ picks.length → (run s picks f t = run s (picks ++ more) f t ∧ (run s picks f t).2.2.evs.length ≤ picks.length) ∨ (picks.length < (run s picks f t).2.2.evs.length ∧ ∃ l, l.length = picks.length ∧ ∃ l1 l2, (run s picks f t).2.2.evs = l ++ l1 ∧ (run s (picks ++ more) f t).2.2.evs = l ++ l2)
  | 0, t, h, h' => by
    left
    exact ⟨rfl, by simpa [run] using h'⟩
  | f + 1, t, h, h' => by
    unfold run
    split
    · exact .inl ⟨rfl, h'⟩
    · rename_i hf
      have hl := fin_len (by simpa using hf)
      rcases Nat.lt_or_ge t.evs.length picks.length with hlt | hge
      · rw [turn_more s picks more t hlt]
        split
        · exact .inl ⟨rfl, by rw [step_evs]; simp; omega⟩
        · exact run_begins s picks more f _ (by rw [step_evs]; simp; omega) (by rw [step_evs]; simp; omega)
      · right
        have he : t.evs.length = picks.length := by omega
        refine ⟨?_, t.evs, he, ?_⟩
        · split
          · rw [step_evs]; simp; omega
          · obtain ⟨l, hl⟩ := run_evs s picks f (step s t (turn s picks t))
            rw [hl, step_evs]; simp; omega
        · have hx : ∀ p : List Int, ∃ l, (if bad s t (turn s p t) ≠ 0 then ((3 : Int), bad s t (turn s p t), step s t (turn s p t)) else run s p f (step s t (turn s p t))).2.2.evs = t.evs ++ l := fun p => by
            split
            · exact ⟨_, step_evs s t _⟩
            · obtain ⟨l, hl⟩ := run_evs s p f (step s t (turn s p t))
              exact ⟨ev s t (turn s p t) :: l, by rw [hl, step_evs]; simp⟩
          obtain ⟨l1, h1⟩ := hx picks
          obtain ⟨l2, h2⟩ := hx (picks ++ more)
          exact ⟨l1, l2, h1, h2⟩
theorem setR_len (t : St) (k : Nat) (r v : Int) : (setR t k r v).length = t.rns.length := by simp [setR]
theorem setP_len (t : St) (k : Nat) (p : Int) : (setP t k p).length = t.rns.length := by simp [setP]
theorem own_len (s : Syst) (t : St) (k : Nat) : (own s t k).length = t.rns.length := by
  unfold own
  repeat' split
  all_goals simp [setR, setP]
theorem act_len (s : Syst) (t : St) (k : Nat) : t.rns.length ≤ (act s t k).st.rns.length := by
  unfold act
  split
  · unfold chan
    repeat' split
    all_goals simp [setR, setP]
  · split
    · unfold shar
      repeat' split
      all_goals simp [setR, setP]
    · exact Nat.le_of_eq (own_len s t k).symm
theorem step_len (s : Syst) (t : St) (k : Nat) : t.rns.length ≤ (step s t k).rns.length := by
  unfold step
  split
  · exact Nat.le_refl _
  · show _ ≤ (on s _ k).length
    rw [on, List.length_set]
    exact act_len s t k
/-- There are never fewer runners. -/
theorem run_len (s : Syst) (picks : List Int) : ∀ f t, t.rns.length ≤ (run s picks f t).2.2.rns.length
  | 0, t => Nat.le_refl _
  | f + 1, t => by
    unfold run
    split
    · exact Nat.le_refl _
    · split
      · exact step_len s t _
      · exact Nat.le_trans (step_len s t _) (run_len s picks f _)
theorem ready_len (s : Syst) (t : St) : (ready s t).length ≤ t.rns.length := by
  unfold ready
  refine Nat.le_trans (List.length_filter_le _ _) ?_
  simp
theorem rest_turn {p d : Int} {l : Nat} (h0 : 0 < l) (hl : l ≤ 12) : rest (p + d * 27720) l = rest p l := by
  unfold rest
  have hd : ∃ c : Int, (27720 : Int) = (l : Int) * c ∨ l = 0 := by
    have : l = 0 ∨ l = 1 ∨ l = 2 ∨ l = 3 ∨ l = 4 ∨ l = 5 ∨ l = 6 ∨ l = 7 ∨ l = 8 ∨ l = 9 ∨ l = 10 ∨ l = 11 ∨ l = 12 := by omega
    rcases this with rfl | rfl | rfl | rfl | rfl | rfl | rfl | rfl | rfl | rfl | rfl | rfl | rfl
    · exact ⟨0, .inr rfl⟩
    · exact ⟨27720, .inl rfl⟩
    · exact ⟨13860, .inl rfl⟩
    · exact ⟨9240, .inl rfl⟩
    · exact ⟨6930, .inl rfl⟩
    · exact ⟨5544, .inl rfl⟩
    · exact ⟨4620, .inl rfl⟩
    · exact ⟨3960, .inl rfl⟩
    · exact ⟨3465, .inl rfl⟩
    · exact ⟨3080, .inl rfl⟩
    · exact ⟨2772, .inl rfl⟩
    · exact ⟨2520, .inl rfl⟩
    · exact ⟨2310, .inl rfl⟩
  obtain ⟨c, h | h⟩ := hd
  · rw [h, ← Int.mul_assoc, Int.mul_comm d, Int.mul_assoc, Int.add_mul_emod_self_left]
  · omega
theorem fin_ready {s : Syst} {t : St} (h : fin s t = 0) : 0 < (ready s t).length := by
  unfold fin at h
  split at h
  · cases h
  · split at h
    · cases h
    · split at h
      · cases h
      · rename_i h3
        exact List.length_pos_iff.2 h3
theorem turn_turns (s : Syst) (a : List Int) (d : Int) (t : St) (h : fin s t = 0) (hl : t.rns.length ≤ 12) : turn s (a.map (fun p => p + d * 27720)) t = turn s a t := by
  have h1 := fin_ready h
  have h2 := ready_len s t
  unfold turn
  rw [List.length_map]
  by_cases hlt : t.evs.length < a.length
  · rw [if_pos hlt, if_pos hlt]
    have : (a.map (fun p => p + d * 27720)).getD t.evs.length 0 = a.getD t.evs.length 0 + d * 27720 := by
      simp [List.getD_eq_getElem?_getD, hlt]
    rw [this, rest_turn h1 (by omega)]
  · rw [if_neg hlt, if_neg hlt]
/-- A pick counts by its rest. -/
theorem run_turns (s : Syst) (a : List Int) (d : Int) : ∀ f t, (run s a f t).2.2.rns.length ≤ 12 → run s (a.map (fun p => p + d * 27720)) f t = run s a f t
  | 0, t, _ => rfl
  | f + 1, t, h => by
    have hl := Nat.le_trans (run_len s a (f + 1) t) h
    by_cases hf : fin s t = 0
    · have e1 : ∀ p, run s p (f + 1) t = if bad s t (turn s p t) ≠ 0 then (3, bad s t (turn s p t), step s t (turn s p t)) else run s p f (step s t (turn s p t)) := fun p => by
        rw [run, if_neg (by simp [hf])]
      rw [e1] at h
      rw [e1, e1, turn_turns s a d t hf hl]
      split
      · rfl
      · rename_i hb
        rw [if_neg hb] at h
        exact run_turns s a d f _ h
    · rw [run, run, if_pos hf, if_pos hf]
end Mc
end Go.Proofs.Ytnfimdcpocooiaa
