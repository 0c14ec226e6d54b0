/-
  The pool's system of layer 15 as plain mathematics: what holds of every state of a run, and that each step that may be taken keeps it, without a fault, and brings the end nearer by one.
-/
import Derived.Test.YtghpfhoajcgghaaPq1
namespace Go.Proofs.Ytghpfhoajcgghaa
open Go
set_option linter.unusedVariables false
set_option linter.unusedSimpArgs false
namespace Mc
namespace PQ
def cmP (a : Int) : List Ins := [⟨1, 0, 0, 0⟩, ⟨1, 1, a, 0⟩, ⟨1, 2, 1, 0⟩, ⟨3, 0, 1, 5⟩, ⟨4, 0, 0, 9⟩, ⟨10, 0, 1, 0⟩, ⟨14, 1, 0, 0⟩, ⟨2, 0, 2, 0⟩, ⟨4, 0, 0, 3⟩, ⟨14, 2, 0, 0⟩, ⟨14, 3, 0, 0⟩, ⟨6, 1, 3, 14⟩, ⟨15, 1, 3, 0⟩, ⟨4, 0, 0, 11⟩, ⟨16, 0, 0, 0⟩]
def wkP : List Ins := [⟨6, 0, 3, 6⟩, ⟨12, 3, 4, 0⟩, ⟨15, 0, 4, 0⟩, ⟨5, 2, 3, 0⟩, ⟨5, 1, 4, 0⟩, ⟨4, 0, 0, 0⟩, ⟨10, 0, -1, 0⟩, ⟨16, 0, 0, 0⟩]
def fdP (b n : Int) : List Ins := [⟨1, 0, 0, 0⟩, ⟨1, 1, b, 0⟩, ⟨1, 2, 1, 0⟩, ⟨3, 0, 1, 5⟩, ⟨4, 0, 0, 8⟩, ⟨5, 2, 0, 0⟩, ⟨2, 0, 2, 0⟩, ⟨4, 0, 0, 3⟩, ⟨1, 0, 0, 0⟩, ⟨1, 1, n, 0⟩, ⟨3, 0, 1, 12⟩, ⟨4, 0, 0, 17⟩, ⟨6, 2, 3, 17⟩, ⟨13, 3, 0, 0⟩, ⟨5, 0, 3, 0⟩, ⟨2, 0, 2, 0⟩, ⟨4, 0, 0, 10⟩, ⟨7, 0, 0, 0⟩, ⟨16, 0, 0, 0⟩]
def clP : List Ins := [⟨11, 0, 0, 0⟩, ⟨7, 1, 0, 0⟩, ⟨16, 0, 0, 0⟩]
/-- The pool's system: n jobs, a workers, rooms q, b buffers. -/
def psys (n a q b : Int) : Syst := ⟨[cmP a, wkP, fdP b n, clP], [q, q, b], 1, 0, b⟩
/-- What the steps that are left of a combiner come to. -/
def wC (n a b p i : Int) : Int :=
  if p = 0 then 8 * a + 9 + (14 + 4 * b + 15 * n) else if p = 1 then 8 * a + 8 + (14 + 4 * b + 15 * n) else if p = 2 then 8 * a + 7 + (14 + 4 * b + 15 * n)
  else if p = 3 then 8 * (a - i) + 6 + (14 + 4 * b + 15 * n) else if p = 4 then 5 + (14 + 4 * b + 15 * n) else if p = 5 then 8 * (a - i) + 5 + (14 + 4 * b + 15 * n) else if p = 6 then 8 * (a - i) + 4 + (14 + 4 * b + 15 * n)
  else if p = 7 then 8 * (a - i) + (14 + 4 * b + 15 * n) else if p = 8 then 8 * (a - i) + 7 + (14 + 4 * b + 15 * n) else if p = 9 then 4 + (14 + 4 * b + 15 * n) else if p = 10 then 6 else if p = 11 then 2 else if p = 12 then 4 else if p = 13 then 3 else 1
def wW (p : Int) : Int := if p = 0 then 3 else if p = 1 then 11 else if p = 2 then 10 else if p = 3 then 9 else if p = 4 then 8 else if p = 5 then 4 else if p = 6 then 2 else 1
def wF (n b p c : Int) : Int :=
  if p = 0 then 11 + 4 * b + 15 * n else if p = 1 then 10 + 4 * b + 15 * n else if p = 2 then 9 + 4 * b + 15 * n else if p = 3 then 4 * (b - c) + 8 + 15 * n else if p = 4 then 7 + 15 * n
  else if p = 5 then 4 * (b - c) + 7 + 15 * n else if p = 6 then 4 * (b - c) + 6 + 15 * n else if p = 7 then 4 * (b - c) + 9 + 15 * n else if p = 8 then 15 * n + 6 else if p = 9 then 15 * n + 5
  else if p = 10 then 15 * (n - c) + 4 else if p = 11 then 3 else if p = 12 then 15 * (n - c) + 3 else if p = 13 then 15 * (n - c) + 2 else if p = 14 then 15 * (n - c) + 1 else if p = 15 then 15 * (n - c) - 9 else if p = 16 then 15 * (n - c) + 5 else if p = 17 then 2 else 1
def wK (p : Int) : Int := if p = 0 then 3 else if p = 1 then 2 else 1
def w (n a b : Int) (r : Rn) : Int :=
  if r.ended = true then 0 else if r.prog = 0 then wC n a b r.pos (r.regs.getD 0 0) else if r.prog = 1 then wW r.pos else if r.prog = 2 then wF n b r.pos (r.regs.getD 0 0) else wK r.pos
/-- Buffers in a feeder's hand, less those that it has laid out. -/
def tF (b p c : Int) : Int := if p ≤ 2 then 0 else if p = 3 then -c else if p = 4 then -b else if p = 5 then -c else if p = 6 then -(c + 1) else if p = 7 then -c else if p = 13 then 1 - b else if p = 14 then 1 - b else -b
def tok (b : Int) (r : Rn) : Int :=
  if r.prog = 1 then (if r.ended = true then 0 else if 1 ≤ r.pos ∧ r.pos ≤ 3 then 1 else 0) else if r.prog = 2 then tF b r.pos (r.regs.getD 0 0) else 0
/-- What a group counts of a runner. -/
def gc (r : Rn) : Int := if r.prog = 1 then (if r.ended = true then 0 else if r.pos ≤ 6 then 1 else 0) else if r.prog = 0 ∧ r.pos = 6 then 1 else 0
/-- How many runners there are, by the combiner's place. -/
def lenC (a p i : Int) : Int := if p ≤ 2 then 1 else if p = 4 then 1 + a else if p = 9 then 1 + a else if p = 7 then 2 + i else if p ≤ 8 then 1 + i else if p = 10 then a + 2 else a + 3
def CA (a z1 x1 p i x y : Int) : Prop := 0 ≤ p ∧ p ≤ 15 ∧ (p = 1 ∨ p = 2 → i = 0) ∧ (p = 2 → x = a) ∧ (3 ≤ p ∧ p ≤ 8 → 0 ≤ i ∧ i ≤ a ∧ x = a ∧ y = 1) ∧ (5 ≤ p ∧ p ≤ 7 → i < a) ∧ (p = 4 → i = a) ∧ (14 ≤ p → z1 = 1 ∧ x1 = 0)
def WA (z0 x0 p : Int) : Prop := 0 ≤ p ∧ p ≤ 8 ∧ (6 ≤ p → z0 = 1 ∧ x0 = 0)
def FA (n b z0 p c x y : Int) : Prop := 0 ≤ p ∧ p ≤ 19 ∧ (p = 1 ∨ p = 2 → c = 0) ∧ (p = 2 → x = b) ∧ (3 ≤ p ∧ p ≤ 7 → 0 ≤ c ∧ c ≤ b ∧ x = b) ∧ (3 ≤ p ∧ p ≤ 16 → y = 1) ∧ (p = 5 ∨ p = 6 → c < b) ∧ (p = 4 → c = b) ∧ (p = 9 → c = 0) ∧ (10 ≤ p ∧ p ≤ 16 → 0 ≤ c ∧ c ≤ n ∧ x = n) ∧ (12 ≤ p ∧ p ≤ 15 → c < n) ∧ (p = 11 → c = n) ∧ (18 ≤ p → z0 = 1) ∧ (p ≤ 17 → z0 = 0)
def KA (z1 g p : Int) : Prop := 0 ≤ p ∧ p ≤ 3 ∧ (2 ≤ p → z1 = 1) ∧ (p ≤ 1 → z1 = 0) ∧ (1 ≤ p → g = 0)
/-- The combiner, a worker, the feeder, the closer, as they may be. -/
def LC (a z1 x1 : Int) (r : Rn) : Prop := ∃ p R, r = ⟨0, p, R, decide (p = 15)⟩ ∧ R.length = 8 ∧ CA a z1 x1 p (R.getD 0 0) (R.getD 1 0) (R.getD 2 0)
def LW (z0 x0 : Int) (r : Rn) : Prop := ∃ p R, r = ⟨1, p, R, decide (p = 8)⟩ ∧ R.length = 8 ∧ WA z0 x0 p
def LF (n b z0 : Int) (r : Rn) : Prop := ∃ p R, r = ⟨2, p, R, decide (p = 19)⟩ ∧ R.length = 8 ∧ FA n b z0 p (R.getD 0 0) (R.getD 1 0) (R.getD 2 0)
def LK (z1 g : Int) (r : Rn) : Prop := ∃ p R, r = ⟨3, p, R, decide (p = 3)⟩ ∧ R.length = 8 ∧ KA z1 g p
structure Loc (n a b z0 z1 x0 x1 g : Int) (j : Nat) (r : Rn) : Prop where
  c : j = 0 → LC a z1 x1 r
  w : 1 ≤ j → (j : Int) ≤ a → LW z0 x0 r
  f : (j : Int) = a + 1 → LF n b z0 r
  k : a + 2 ≤ (j : Int) → LK z1 g r
theorem Loc.mono {n a b z0 z1 x0 x1 g z0' z1' x0' x1' g' : Int} {j : Nat} {r : Rn} (h : Loc n a b z0 z1 x0 x1 g j r) (h1 : j = 0 → z1 = 1 → x1 = 0 → z1' = 1 ∧ x1' = 0) (h2 : 1 ≤ j → (j : Int) ≤ a → z0 = 1 → x0 = 0 → z0' = 1 ∧ x0' = 0) (h3 : (j : Int) = a + 1 → z0' = z0) (h4 : a + 2 ≤ (j : Int) → z1' = z1 ∧ (g = 0 → g' = 0)) : Loc n a b z0' z1' x0' x1' g' j r := by
  refine ⟨fun hj => ?_, fun hj hj2 => ?_, fun hj => ?_, fun hj => ?_⟩
  · obtain ⟨p, R, e, l, A⟩ := h.c hj
    have := h1 hj
    exact ⟨p, R, e, l, by unfold CA at *; omega⟩
  · obtain ⟨p, R, e, l, A⟩ := h.w hj hj2
    have := h2 hj hj2
    exact ⟨p, R, e, l, by unfold WA at *; omega⟩
  · obtain ⟨p, R, e, l, A⟩ := h.f hj
    rw [h3 hj]
    exact ⟨p, R, e, l, A⟩
  · obtain ⟨p, R, e, l, A⟩ := h.k hj
    have := h4 hj
    exact ⟨p, R, e, l, by unfold KA at *; omega⟩
theorem Loc.mkC {n a b z0 z1 x0 x1 g : Int} {r : Rn} (ha : 1 ≤ a) (h : LC a z1 x1 r) : Loc n a b z0 z1 x0 x1 g 0 r := ⟨fun _ => h, fun h => by omega, fun h => by omega, fun h => by omega⟩
theorem Loc.mkW {n a b z0 z1 x0 x1 g : Int} {j : Nat} {r : Rn} (h1 : 1 ≤ j) (h2 : (j : Int) ≤ a) (h : LW z0 x0 r) : Loc n a b z0 z1 x0 x1 g j r := ⟨fun _ => by omega, fun _ _ => h, fun h => by omega, fun h => by omega⟩
theorem Loc.mkF {n a b z0 z1 x0 x1 g : Int} {j : Nat} {r : Rn} (ha : 1 ≤ a) (h2 : (j : Int) = a + 1) (h : LF n b z0 r) : Loc n a b z0 z1 x0 x1 g j r := ⟨fun _ => by omega, fun _ _ => by omega, fun _ => h, fun h => by omega⟩
theorem Loc.mkK {n a b z0 z1 x0 x1 g : Int} {j : Nat} {r : Rn} (ha : 1 ≤ a) (h2 : a + 2 ≤ (j : Int)) (h : LK z1 g r) : Loc n a b z0 z1 x0 x1 g j r := ⟨fun _ => by omega, fun _ _ => by omega, fun _ => by omega, fun _ => h⟩
structure Hy (n a q b : Int) : Prop where
  n0 : 0 ≤ n ∧ n ≤ 1024
  a0 : 1 ≤ a ∧ a ≤ 256
  q0 : 1 ≤ q
  b0 : 1 ≤ b ∧ b ≤ 64
/-- What holds of every state. -/
structure IV (n a b : Int) (rns : List Rn) (h0 h1 h2 : List Int) (z0 z1 g : Int) (cells : List Int) (E : Nat) : Prop where
  len : (rns.length : Int) = lenC a (rns.getD 0 r0).pos ((rns.getD 0 r0).regs.getD 0 0)
  loc : ∀ j, j < rns.length → Loc n a b z0 z1 h0.length h1.length g j (rns.getD j r0)
  s0n : (rns.length : Int) ≤ a + 1 → z0 = 0
  s1n : (rns.length : Int) ≤ a + 2 → z1 = 0
  z0r : z0 = 0 ∨ z0 = 1
  z1r : z1 = 0 ∨ z1 = 1
  tk : sm (tok b) rns + h0.length + h2.length = 0
  gp : sm gc rns = g
  ms : E + sm (w n a b) rns + 9 * h0.length + 3 * h1.length = 23 + 8 * a + 4 * b + 15 * n
  cl : (cells.length : Int) = b
theorem gc_nn (r : Rn) : 0 ≤ gc r := by unfold gc; (repeat' split) <;> omega
theorem gc_le (r : Rn) : gc r ≤ 1 := by unfold gc; (repeat' split) <;> omega
theorem IV.lenb {n a b : Int} {rns : List Rn} {h0 h1 h2 : List Int} {z0 z1 g : Int} {cells : List Int} {E : Nat} (h : IV n a b rns h0 h1 h2 z0 z1 g cells E) (ha : 1 ≤ a) : 0 < rns.length ∧ (rns.length : Int) ≤ a + 3 := by
  have hl := h.len
  rcases Nat.eq_zero_or_pos rns.length with h0 | h0
  · obtain rfl := List.eq_nil_of_length_eq_zero h0
    simp [lenC, r0] at hl
  · obtain ⟨p, R, e, l, A⟩ := (h.loc 0 h0).c rfl
    refine ⟨h0, ?_⟩
    rw [hl, e]
    unfold CA at A
    unfold lenC
    dsimp only
    (repeat' split) <;> omega
theorem IV.g0 {n a b : Int} {rns : List Rn} {h0 h1 h2 : List Int} {z0 z1 g : Int} {cells : List Int} {E : Nat} (h : IV n a b rns h0 h1 h2 z0 z1 g cells E) : 0 ≤ g ∧ g ≤ rns.length := by
  have h1 := sm_nn gc rns (fun k _ => gc_nn _)
  have h2 := sm_le gc gc_le rns
  have := h.gp
  omega
theorem IV.g1 {n a b : Int} {rns : List Rn} {h0 h1 h2 : List Int} {z0 z1 g : Int} {cells : List Int} {E : Nat} (h : IV n a b rns h0 h1 h2 z0 z1 g cells E) {k : Nat} (hk : k < rns.length) (hg : gc (rns.getD k r0) = 1) : 1 ≤ g := by
  have h1 := sm_ge gc rns k hk (fun k _ _ => gc_nn _)
  have := h.gp
  omega
/-- While the group is not 0, results are open. -/
theorem IV.open1 {n a b : Int} {rns : List Rn} {h0 h1 h2 : List Int} {z0 z1 g : Int} {cells : List Int} {E : Nat} (h : IV n a b rns h0 h1 h2 z0 z1 g cells E) (ha : 1 ≤ a) (hg : 1 ≤ g) : z1 = 0 := by
  rcases h.z1r with hz | hz
  · exact hz
  · have h1 := h.s1n
    have hl : a + 2 < (rns.length : Int) := by omega
    obtain ⟨p, R, e, l, A⟩ := (h.loc (a + 2).toNat (by omega)).k (by omega)
    unfold KA at A
    omega
theorem IV.move {n a b : Int} {rns : List Rn} {h0 h1 h2 : List Int} {z0 z1 g : Int} {cells : List Int} {E : Nat} (h : IV n a b rns h0 h1 h2 z0 z1 g cells E) {k : Nat} (hk : k < rns.length) {r r' : Rn} (hr : rns.getD k r0 = r) {h0' h1' h2' : List Int} {z0' z1' g' : Int} {cells' : List Int}
    (hl : Loc n a b z0' z1' h0'.length h1'.length g' k r')
    (ho : ∀ j, j < rns.length → j ≠ k → Loc n a b z0 z1 h0.length h1.length g j (rns.getD j r0) → Loc n a b z0' z1' h0'.length h1'.length g' j (rns.getD j r0))
    (hz0 : z0' = 0 ∨ z0' = 1) (hz1 : z1' = 0 ∨ z1' = 1) (hs0 : (rns.length : Int) ≤ a + 1 → z0' = 0) (hs1 : (rns.length : Int) ≤ a + 2 → z1' = 0)
    (ht : tok b r' + h0'.length + h2'.length = tok b r + h0.length + h2.length)
    (hg : gc r' - g' = gc r - g)
    (hm : 1 + w n a b r' + 9 * h0'.length + 3 * h1'.length = w n a b r + 9 * h0.length + 3 * h1.length)
    (hc : (cells'.length : Int) = b)
    (hn : k = 0 → lenC a r'.pos (r'.regs.getD 0 0) = lenC a r.pos (r.regs.getD 0 0)) : IV n a b (rns.set k r') h0' h1' h2' z0' z1' g' cells' (E + 1) := by
  have e1 := sm_set (tok b) rns k r' hk
  have e2 := sm_set gc rns k r' hk
  have e3 := sm_set (w n a b) rns k r' hk
  rw [hr] at e1 e2 e3
  have t1 := h.tk
  have t2 := h.gp
  have t3 := h.ms
  refine ⟨?_, fun j hj => ?_, by rw [List.length_set]; exact hs0, by rw [List.length_set]; exact hs1, hz0, hz1, by omega, by omega, by omega, hc⟩
  · rw [List.length_set, getD_set]
    by_cases h0 : k = 0
    · subst h0
      rw [if_pos ⟨rfl, hk⟩, hn rfl, h.len, hr]
    · rw [if_neg (fun hh => h0 hh.1), h.len]
  · rw [List.length_set] at hj
    rw [getD_set]
    by_cases h0 : k = j
    · subst h0
      rw [if_pos ⟨rfl, hk⟩]
      exact hl
    · rw [if_neg (fun hh => h0 hh.1)]
      exact ho j hj (fun e => h0 e.symm) (h.loc j hj)
theorem getD_appL {l : List Rn} {x : Rn} {j : Nat} (h : j < l.length) : (l ++ [x]).getD j r0 = l.getD j r0 := by
  rw [List.getD_eq_getElem?_getD, List.getElem?_append_left h, ← List.getD_eq_getElem?_getD]
theorem getD_appR (l : List Rn) (x : Rn) : (l ++ [x]).getD l.length r0 = x := by
  rw [List.getD_eq_getElem?_getD, List.getElem?_append_right (Nat.le_refl _), Nat.sub_self]
  rfl
/-- The combiner starts another one. -/
theorem IV.start {n a b : Int} {rns : List Rn} {h0 h1 h2 : List Int} {z0 z1 g : Int} {cells : List Int} {E : Nat} (h : IV n a b rns h0 h1 h2 z0 z1 g cells E) (hk : 0 < rns.length) {r r' x : Rn} (hr : rns.getD 0 r0 = r)
    (hl : Loc n a b z0 z1 h0.length h1.length g 0 r') (hx : Loc n a b z0 z1 h0.length h1.length g rns.length x)
    (ht : tok b r' + tok b x = tok b r) (hg : gc r' + gc x = gc r) (hm : 1 + w n a b r' + w n a b x = w n a b r)
    (hn : lenC a r'.pos (r'.regs.getD 0 0) = lenC a r.pos (r.regs.getD 0 0) + 1) : IV n a b (rns.set 0 r' ++ [x]) h0 h1 h2 z0 z1 g cells (E + 1) := by
  have e1 := sm_set (tok b) rns 0 r' hk
  have e2 := sm_set gc rns 0 r' hk
  have e3 := sm_set (w n a b) rns 0 r' hk
  have d1 := sm_app (tok b) (rns.set 0 r') x
  have d2 := sm_app gc (rns.set 0 r') x
  have d3 := sm_app (w n a b) (rns.set 0 r') x
  rw [hr] at e1 e2 e3
  have t1 := h.tk
  have t2 := h.gp
  have t3 := h.ms
  have t4 := h.s0n
  have t5 := h.s1n
  have hlen := h.len
  rw [hr] at hlen
  have hL : (rns.set 0 r' ++ [x]).length = rns.length + 1 := by simp
  refine ⟨?_, fun j hj => ?_, by rw [hL]; omega, by rw [hL]; omega, h.z0r, h.z1r, by omega, by omega, by omega, h.cl⟩
  · rw [hL, getD_appL (by rw [List.length_set]; exact hk), getD_set, if_pos ⟨rfl, hk⟩, hn, ← hlen]
    omega
  · rw [hL] at hj
    by_cases h1 : j < rns.length
    · rw [getD_appL (by rw [List.length_set]; exact h1), getD_set]
      by_cases h0 : 0 = j
      · subst h0
        rw [if_pos ⟨rfl, hk⟩]
        exact hl
      · rw [if_neg (fun hh => h0 hh.1)]
        exact h.loc j h1
    · obtain rfl : j = rns.length := by omega
      have := getD_appR (rns.set 0 r') x
      rw [List.length_set] at this
      rw [this]
      exact hx
theorem wrap_id {x : Int} (h : -9223372036854775808 ≤ x ∧ x ≤ 9223372036854775807) : IntKind.i64.wrap x = x := by
  rw [IntKind.wrap_i64]
  omega
/-- A state of the pool's system. -/
def pst (rns : List Rn) (h0 h1 h2 : List Int) (z0 z1 g : Int) (cells : List Int) (evs : List Ev) : St := ⟨rns, [h0, h1, h2], [decide (z0 = 1), decide (z1 = 1), false], [], [g], cells, evs⟩
/-- What a step comes to. -/
def Nxt (n a q b : Int) (t : St) (k : Nat) : Prop := bad (psys n a q b) t k = 0 ∧ ∃ rns h0 h1 h2 z0 z1 g cells, step (psys n a q b) t k = pst rns h0 h1 h2 z0 z1 g cells (t.evs ++ [ev (psys n a q b) t k]) ∧ IV n a b rns h0 h1 h2 z0 z1 g cells (t.evs.length + 1)
theorem goC0 {n a q b : Int} (hy : Hy n a q b) {rns : List Rn} {h0 h1 h2 : List Int} {z0 z1 g : Int} {cells : List Int} {evs : List Ev} (h : IV n a b rns h0 h1 h2 z0 z1 g cells evs.length) {k : Nat} (hk : k < rns.length) (hj : k = 0) {R : List Int} (hr : rns.getD k r0 = ⟨0, 0, R, false⟩) (hR : R.length = 8) (hA : CA a z1 h1.length 0 (R.getD 0 0) (R.getD 1 0) (R.getD 2 0)) (hc : can (psys n a q b) (pst rns h0 h1 h2 z0 z1 g cells evs) k = true) : Nxt n a q b (pst rns h0 h1 h2 z0 z1 g cells evs) k := by
  have y1 := hy.n0
  have y2 := hy.a0
  have y3 := hy.b0
  have hlb := h.lenb y2.1
  have hgb := h.g0
  have hz0r := h.z0r
  have hz1r := h.z1r
  have hs0 := h.s0n
  have hs1 := h.s1n
  have hi : ins (psys n a q b) (pst rns h0 h1 h2 z0 z1 g cells evs) k = ⟨1, 0, 0, 0⟩ := by unfold ins rn pst; dsimp only; rw [hr]; rfl
  have hr1 : rn (pst rns h0 h1 h2 z0 z1 g cells evs) k = ⟨0, 0, R, false⟩ := hr
  have hr2 : rns.getD k r0 = ⟨0, 0, R, false⟩ := hr
  have hst := step1 (t := pst rns h0 h1 h2 z0 z1 g cells evs) hk hr1 hi
  refine ⟨hst.1, rns.set k ⟨0, 1, R.set 0 0, false⟩, h0, h1, h2, z0, z1, g, cells, hst.2.trans rfl, ?_⟩
  refine h.move hk hr2 (by first | exact Loc.mkC y2.1 ⟨1, R.set 0 0, rfl, by simp [hR], by have hB := hA; simp [-List.getD_eq_getElem?_getD, CA, getD_set, hR] at hB ⊢ <;> omega⟩ | (rw [hj]; exact Loc.mkC y2.1 ⟨1, R.set 0 0, rfl, by simp [hR], by have hB := hA; simp [-List.getD_eq_getElem?_getD, CA, getD_set, hR] at hB ⊢ <;> omega⟩)) (fun j hj hne hL => hL) (by omega) (by omega) (by omega) (by omega) ?_ ?_ ?_ h.cl ?_
  · (have hB := hA; simp [-List.getD_eq_getElem?_getD, w, wC, wW, wF, wK, tok, tF, gc, lenC, getD_set, hR, CA] at hB ⊢ <;> omega)
  · (have hB := hA; simp [-List.getD_eq_getElem?_getD, w, wC, wW, wF, wK, tok, tF, gc, lenC, getD_set, hR, CA] at hB ⊢ <;> omega)
  · (have hB := hA; simp [-List.getD_eq_getElem?_getD, w, wC, wW, wF, wK, tok, tF, gc, lenC, getD_set, hR, CA] at hB ⊢ <;> omega)
  · (intro hk0; first | omega | (have hB := hA; simp [-List.getD_eq_getElem?_getD, w, wC, wW, wF, wK, tok, tF, gc, lenC, getD_set, hR, CA] at hB ⊢ <;> omega))
theorem goC1 {n a q b : Int} (hy : Hy n a q b) {rns : List Rn} {h0 h1 h2 : List Int} {z0 z1 g : Int} {cells : List Int} {evs : List Ev} (h : IV n a b rns h0 h1 h2 z0 z1 g cells evs.length) {k : Nat} (hk : k < rns.length) (hj : k = 0) {R : List Int} (hr : rns.getD k r0 = ⟨0, 1, R, false⟩) (hR : R.length = 8) (hA : CA a z1 h1.length 1 (R.getD 0 0) (R.getD 1 0) (R.getD 2 0)) (hc : can (psys n a q b) (pst rns h0 h1 h2 z0 z1 g cells evs) k = true) : Nxt n a q b (pst rns h0 h1 h2 z0 z1 g cells evs) k := by
  have y1 := hy.n0
  have y2 := hy.a0
  have y3 := hy.b0
  have hlb := h.lenb y2.1
  have hgb := h.g0
  have hz0r := h.z0r
  have hz1r := h.z1r
  have hs0 := h.s0n
  have hs1 := h.s1n
  have hi : ins (psys n a q b) (pst rns h0 h1 h2 z0 z1 g cells evs) k = ⟨1, 1, a, 0⟩ := by unfold ins rn pst; dsimp only; rw [hr]; rfl
  have hr1 : rn (pst rns h0 h1 h2 z0 z1 g cells evs) k = ⟨0, 1, R, false⟩ := hr
  have hr2 : rns.getD k r0 = ⟨0, 1, R, false⟩ := hr
  have hst := step1 (t := pst rns h0 h1 h2 z0 z1 g cells evs) hk hr1 hi
  refine ⟨hst.1, rns.set k ⟨0, 2, R.set 1 a, false⟩, h0, h1, h2, z0, z1, g, cells, hst.2.trans rfl, ?_⟩
  refine h.move hk hr2 (by first | exact Loc.mkC y2.1 ⟨2, R.set 1 a, rfl, by simp [hR], by have hB := hA; simp [-List.getD_eq_getElem?_getD, CA, getD_set, hR] at hB ⊢ <;> omega⟩ | (rw [hj]; exact Loc.mkC y2.1 ⟨2, R.set 1 a, rfl, by simp [hR], by have hB := hA; simp [-List.getD_eq_getElem?_getD, CA, getD_set, hR] at hB ⊢ <;> omega⟩)) (fun j hj hne hL => hL) (by omega) (by omega) (by omega) (by omega) ?_ ?_ ?_ h.cl ?_
  · (have hB := hA; simp [-List.getD_eq_getElem?_getD, w, wC, wW, wF, wK, tok, tF, gc, lenC, getD_set, hR, CA] at hB ⊢ <;> omega)
  · (have hB := hA; simp [-List.getD_eq_getElem?_getD, w, wC, wW, wF, wK, tok, tF, gc, lenC, getD_set, hR, CA] at hB ⊢ <;> omega)
  · (have hB := hA; simp [-List.getD_eq_getElem?_getD, w, wC, wW, wF, wK, tok, tF, gc, lenC, getD_set, hR, CA] at hB ⊢ <;> omega)
  · (intro hk0; first | omega | (have hB := hA; simp [-List.getD_eq_getElem?_getD, w, wC, wW, wF, wK, tok, tF, gc, lenC, getD_set, hR, CA] at hB ⊢ <;> omega))
theorem goC2 {n a q b : Int} (hy : Hy n a q b) {rns : List Rn} {h0 h1 h2 : List Int} {z0 z1 g : Int} {cells : List Int} {evs : List Ev} (h : IV n a b rns h0 h1 h2 z0 z1 g cells evs.length) {k : Nat} (hk : k < rns.length) (hj : k = 0) {R : List Int} (hr : rns.getD k r0 = ⟨0, 2, R, false⟩) (hR : R.length = 8) (hA : CA a z1 h1.length 2 (R.getD 0 0) (R.getD 1 0) (R.getD 2 0)) (hc : can (psys n a q b) (pst rns h0 h1 h2 z0 z1 g cells evs) k = true) : Nxt n a q b (pst rns h0 h1 h2 z0 z1 g cells evs) k := by
  have y1 := hy.n0
  have y2 := hy.a0
  have y3 := hy.b0
  have hlb := h.lenb y2.1
  have hgb := h.g0
  have hz0r := h.z0r
  have hz1r := h.z1r
  have hs0 := h.s0n
  have hs1 := h.s1n
  have hi : ins (psys n a q b) (pst rns h0 h1 h2 z0 z1 g cells evs) k = ⟨1, 2, 1, 0⟩ := by unfold ins rn pst; dsimp only; rw [hr]; rfl
  have hr1 : rn (pst rns h0 h1 h2 z0 z1 g cells evs) k = ⟨0, 2, R, false⟩ := hr
  have hr2 : rns.getD k r0 = ⟨0, 2, R, false⟩ := hr
  have hst := step1 (t := pst rns h0 h1 h2 z0 z1 g cells evs) hk hr1 hi
  refine ⟨hst.1, rns.set k ⟨0, 3, R.set 2 1, false⟩, h0, h1, h2, z0, z1, g, cells, hst.2.trans rfl, ?_⟩
  refine h.move hk hr2 (by first | exact Loc.mkC y2.1 ⟨3, R.set 2 1, rfl, by simp [hR], by have hB := hA; simp [-List.getD_eq_getElem?_getD, CA, getD_set, hR] at hB ⊢ <;> omega⟩ | (rw [hj]; exact Loc.mkC y2.1 ⟨3, R.set 2 1, rfl, by simp [hR], by have hB := hA; simp [-List.getD_eq_getElem?_getD, CA, getD_set, hR] at hB ⊢ <;> omega⟩)) (fun j hj hne hL => hL) (by omega) (by omega) (by omega) (by omega) ?_ ?_ ?_ h.cl ?_
  · (have hB := hA; simp [-List.getD_eq_getElem?_getD, w, wC, wW, wF, wK, tok, tF, gc, lenC, getD_set, hR, CA] at hB ⊢ <;> omega)
  · (have hB := hA; simp [-List.getD_eq_getElem?_getD, w, wC, wW, wF, wK, tok, tF, gc, lenC, getD_set, hR, CA] at hB ⊢ <;> omega)
  · (have hB := hA; simp [-List.getD_eq_getElem?_getD, w, wC, wW, wF, wK, tok, tF, gc, lenC, getD_set, hR, CA] at hB ⊢ <;> omega)
  · (intro hk0; first | omega | (have hB := hA; simp [-List.getD_eq_getElem?_getD, w, wC, wW, wF, wK, tok, tF, gc, lenC, getD_set, hR, CA] at hB ⊢ <;> omega))
theorem goC3 {n a q b : Int} (hy : Hy n a q b) {rns : List Rn} {h0 h1 h2 : List Int} {z0 z1 g : Int} {cells : List Int} {evs : List Ev} (h : IV n a b rns h0 h1 h2 z0 z1 g cells evs.length) {k : Nat} (hk : k < rns.length) (hj : k = 0) {R : List Int} (hr : rns.getD k r0 = ⟨0, 3, R, false⟩) (hR : R.length = 8) (hA : CA a z1 h1.length 3 (R.getD 0 0) (R.getD 1 0) (R.getD 2 0)) (hc : can (psys n a q b) (pst rns h0 h1 h2 z0 z1 g cells evs) k = true) : Nxt n a q b (pst rns h0 h1 h2 z0 z1 g cells evs) k := by
  have y1 := hy.n0
  have y2 := hy.a0
  have y3 := hy.b0
  have hlb := h.lenb y2.1
  have hgb := h.g0
  have hz0r := h.z0r
  have hz1r := h.z1r
  have hs0 := h.s0n
  have hs1 := h.s1n
  have hi : ins (psys n a q b) (pst rns h0 h1 h2 z0 z1 g cells evs) k = ⟨3, 0, 1, 5⟩ := by unfold ins rn pst; dsimp only; rw [hr]; rfl
  have hr1 : rn (pst rns h0 h1 h2 z0 z1 g cells evs) k = ⟨0, 3, R, false⟩ := hr
  have hr2 : rns.getD k r0 = ⟨0, 3, R, false⟩ := hr
  by_cases hlt : R.getD 0 0 < R.getD 1 0
  · have hst := step3y (t := pst rns h0 h1 h2 z0 z1 g cells evs) hk hr1 hi hlt
    refine ⟨hst.1, rns.set k ⟨0, 5, R, false⟩, h0, h1, h2, z0, z1, g, cells, hst.2.trans rfl, ?_⟩
    refine h.move hk hr2 (by first | exact Loc.mkC y2.1 ⟨5, R, rfl, by simp [hR], by have hB := hA; simp [-List.getD_eq_getElem?_getD, CA, getD_set, hR] at hB ⊢ <;> omega⟩ | (rw [hj]; exact Loc.mkC y2.1 ⟨5, R, rfl, by simp [hR], by have hB := hA; simp [-List.getD_eq_getElem?_getD, CA, getD_set, hR] at hB ⊢ <;> omega⟩)) (fun j hj hne hL => hL) (by omega) (by omega) (by omega) (by omega) ?_ ?_ ?_ h.cl ?_
    · (have hB := hA; simp [-List.getD_eq_getElem?_getD, w, wC, wW, wF, wK, tok, tF, gc, lenC, getD_set, hR, CA] at hB ⊢ <;> omega)
    · (have hB := hA; simp [-List.getD_eq_getElem?_getD, w, wC, wW, wF, wK, tok, tF, gc, lenC, getD_set, hR, CA] at hB ⊢ <;> omega)
    · (have hB := hA; simp [-List.getD_eq_getElem?_getD, w, wC, wW, wF, wK, tok, tF, gc, lenC, getD_set, hR, CA] at hB ⊢ <;> omega)
    · (intro hk0; first | omega | (have hB := hA; simp [-List.getD_eq_getElem?_getD, w, wC, wW, wF, wK, tok, tF, gc, lenC, getD_set, hR, CA] at hB ⊢ <;> omega))
  · have hst := step3n (t := pst rns h0 h1 h2 z0 z1 g cells evs) hk hr1 hi hlt
    refine ⟨hst.1, rns.set k ⟨0, 4, R, false⟩, h0, h1, h2, z0, z1, g, cells, hst.2.trans rfl, ?_⟩
    refine h.move hk hr2 (by first | exact Loc.mkC y2.1 ⟨4, R, rfl, by simp [hR], by have hB := hA; simp [-List.getD_eq_getElem?_getD, CA, getD_set, hR] at hB ⊢ <;> omega⟩ | (rw [hj]; exact Loc.mkC y2.1 ⟨4, R, rfl, by simp [hR], by have hB := hA; simp [-List.getD_eq_getElem?_getD, CA, getD_set, hR] at hB ⊢ <;> omega⟩)) (fun j hj hne hL => hL) (by omega) (by omega) (by omega) (by omega) ?_ ?_ ?_ h.cl ?_
    · (have hB := hA; simp [-List.getD_eq_getElem?_getD, w, wC, wW, wF, wK, tok, tF, gc, lenC, getD_set, hR, CA] at hB ⊢ <;> omega)
    · (have hB := hA; simp [-List.getD_eq_getElem?_getD, w, wC, wW, wF, wK, tok, tF, gc, lenC, getD_set, hR, CA] at hB ⊢ <;> omega)
    · (have hB := hA; simp [-List.getD_eq_getElem?_getD, w, wC, wW, wF, wK, tok, tF, gc, lenC, getD_set, hR, CA] at hB ⊢ <;> omega)
    · (intro hk0; first | omega | (have hB := hA; simp [-List.getD_eq_getElem?_getD, w, wC, wW, wF, wK, tok, tF, gc, lenC, getD_set, hR, CA] at hB ⊢ <;> omega))
theorem goC4 {n a q b : Int} (hy : Hy n a q b) {rns : List Rn} {h0 h1 h2 : List Int} {z0 z1 g : Int} {cells : List Int} {evs : List Ev} (h : IV n a b rns h0 h1 h2 z0 z1 g cells evs.length) {k : Nat} (hk : k < rns.length) (hj : k = 0) {R : List Int} (hr : rns.getD k r0 = ⟨0, 4, R, false⟩) (hR : R.length = 8) (hA : CA a z1 h1.length 4 (R.getD 0 0) (R.getD 1 0) (R.getD 2 0)) (hc : can (psys n a q b) (pst rns h0 h1 h2 z0 z1 g cells evs) k = true) : Nxt n a q b (pst rns h0 h1 h2 z0 z1 g cells evs) k := by
  have y1 := hy.n0
  have y2 := hy.a0
  have y3 := hy.b0
  have hlb := h.lenb y2.1
  have hgb := h.g0
  have hz0r := h.z0r
  have hz1r := h.z1r
  have hs0 := h.s0n
  have hs1 := h.s1n
  have hi : ins (psys n a q b) (pst rns h0 h1 h2 z0 z1 g cells evs) k = ⟨4, 0, 0, 9⟩ := by unfold ins rn pst; dsimp only; rw [hr]; rfl
  have hr1 : rn (pst rns h0 h1 h2 z0 z1 g cells evs) k = ⟨0, 4, R, false⟩ := hr
  have hr2 : rns.getD k r0 = ⟨0, 4, R, false⟩ := hr
  have hst := step4 (t := pst rns h0 h1 h2 z0 z1 g cells evs) hk hr1 hi
  refine ⟨hst.1, rns.set k ⟨0, 9, R, false⟩, h0, h1, h2, z0, z1, g, cells, hst.2.trans rfl, ?_⟩
  refine h.move hk hr2 (by first | exact Loc.mkC y2.1 ⟨9, R, rfl, by simp [hR], by have hB := hA; simp [-List.getD_eq_getElem?_getD, CA, getD_set, hR] at hB ⊢ <;> omega⟩ | (rw [hj]; exact Loc.mkC y2.1 ⟨9, R, rfl, by simp [hR], by have hB := hA; simp [-List.getD_eq_getElem?_getD, CA, getD_set, hR] at hB ⊢ <;> omega⟩)) (fun j hj hne hL => hL) (by omega) (by omega) (by omega) (by omega) ?_ ?_ ?_ h.cl ?_
  · (have hB := hA; simp [-List.getD_eq_getElem?_getD, w, wC, wW, wF, wK, tok, tF, gc, lenC, getD_set, hR, CA] at hB ⊢ <;> omega)
  · (have hB := hA; simp [-List.getD_eq_getElem?_getD, w, wC, wW, wF, wK, tok, tF, gc, lenC, getD_set, hR, CA] at hB ⊢ <;> omega)
  · (have hB := hA; simp [-List.getD_eq_getElem?_getD, w, wC, wW, wF, wK, tok, tF, gc, lenC, getD_set, hR, CA] at hB ⊢ <;> omega)
  · (intro hk0; first | omega | (have hB := hA; simp [-List.getD_eq_getElem?_getD, w, wC, wW, wF, wK, tok, tF, gc, lenC, getD_set, hR, CA] at hB ⊢ <;> omega))
theorem goC5 {n a q b : Int} (hy : Hy n a q b) {rns : List Rn} {h0 h1 h2 : List Int} {z0 z1 g : Int} {cells : List Int} {evs : List Ev} (h : IV n a b rns h0 h1 h2 z0 z1 g cells evs.length) {k : Nat} (hk : k < rns.length) (hj : k = 0) {R : List Int} (hr : rns.getD k r0 = ⟨0, 5, R, false⟩) (hR : R.length = 8) (hA : CA a z1 h1.length 5 (R.getD 0 0) (R.getD 1 0) (R.getD 2 0)) (hc : can (psys n a q b) (pst rns h0 h1 h2 z0 z1 g cells evs) k = true) : Nxt n a q b (pst rns h0 h1 h2 z0 z1 g cells evs) k := by
  have y1 := hy.n0
  have y2 := hy.a0
  have y3 := hy.b0
  have hlb := h.lenb y2.1
  have hgb := h.g0
  have hz0r := h.z0r
  have hz1r := h.z1r
  have hs0 := h.s0n
  have hs1 := h.s1n
  have hi : ins (psys n a q b) (pst rns h0 h1 h2 z0 z1 g cells evs) k = ⟨10, 0, 1, 0⟩ := by unfold ins rn pst; dsimp only; rw [hr]; rfl
  have hr1 : rn (pst rns h0 h1 h2 z0 z1 g cells evs) k = ⟨0, 5, R, false⟩ := hr
  have hr2 : rns.getD k r0 = ⟨0, 5, R, false⟩ := hr
  have hg1 : 0 ≤ g := hgb.1
  have hw : IntKind.i64.wrap (g + 1) = g + 1 := wrap_id (by omega)
  have hle := h.len
  have hr3 := hr2
  rw [hj] at hr3
  rw [hr3] at hle
  have hB := hA
  simp [-List.getD_eq_getElem?_getD, w, wC, wW, wF, wK, tok, tF, gc, lenC, getD_set, hR, CA] at hB hle
  have hst := step10 (t := pst rns h0 h1 h2 z0 z1 g cells evs) hk hr1 hi (v := g + 1) hw (by omega)
  refine ⟨hst.1, rns.set k ⟨0, 6, R, false⟩, h0, h1, h2, z0, z1, (g + 1), cells, hst.2.trans rfl, ?_⟩
  refine h.move hk hr2 (by first | exact Loc.mkC y2.1 ⟨6, R, rfl, by simp [hR], by have hB := hA; simp [-List.getD_eq_getElem?_getD, CA, getD_set, hR] at hB ⊢ <;> omega⟩ | (rw [hj]; exact Loc.mkC y2.1 ⟨6, R, rfl, by simp [hR], by have hB := hA; simp [-List.getD_eq_getElem?_getD, CA, getD_set, hR] at hB ⊢ <;> omega⟩)) (fun j hj hne hL => hL.mono (fun _ _ _ => by first | omega | simp_all) (fun _ _ _ _ => by first | omega | simp_all) (fun _ => by first | rfl | omega) (fun _ => by first | exact ⟨rfl, id⟩ | omega)) (by omega) (by omega) (by omega) (by omega) ?_ ?_ ?_ h.cl ?_
  · (have hB := hA; simp [-List.getD_eq_getElem?_getD, w, wC, wW, wF, wK, tok, tF, gc, lenC, getD_set, hR, CA] at hB ⊢ <;> omega)
  · (have hB := hA; simp [-List.getD_eq_getElem?_getD, w, wC, wW, wF, wK, tok, tF, gc, lenC, getD_set, hR, CA] at hB ⊢ <;> omega)
  · (have hB := hA; simp [-List.getD_eq_getElem?_getD, w, wC, wW, wF, wK, tok, tF, gc, lenC, getD_set, hR, CA] at hB ⊢ <;> omega)
  · (intro hk0; first | omega | (have hB := hA; simp [-List.getD_eq_getElem?_getD, w, wC, wW, wF, wK, tok, tF, gc, lenC, getD_set, hR, CA] at hB ⊢ <;> omega))
theorem goC6 {n a q b : Int} (hy : Hy n a q b) {rns : List Rn} {h0 h1 h2 : List Int} {z0 z1 g : Int} {cells : List Int} {evs : List Ev} (h : IV n a b rns h0 h1 h2 z0 z1 g cells evs.length) {k : Nat} (hk : k < rns.length) (hj : k = 0) {R : List Int} (hr : rns.getD k r0 = ⟨0, 6, R, false⟩) (hR : R.length = 8) (hA : CA a z1 h1.length 6 (R.getD 0 0) (R.getD 1 0) (R.getD 2 0)) (hc : can (psys n a q b) (pst rns h0 h1 h2 z0 z1 g cells evs) k = true) : Nxt n a q b (pst rns h0 h1 h2 z0 z1 g cells evs) k := by
  have y1 := hy.n0
  have y2 := hy.a0
  have y3 := hy.b0
  have hlb := h.lenb y2.1
  have hgb := h.g0
  have hz0r := h.z0r
  have hz1r := h.z1r
  have hs0 := h.s0n
  have hs1 := h.s1n
  have hi : ins (psys n a q b) (pst rns h0 h1 h2 z0 z1 g cells evs) k = ⟨14, 1, 0, 0⟩ := by unfold ins rn pst; dsimp only; rw [hr]; rfl
  have hr1 : rn (pst rns h0 h1 h2 z0 z1 g cells evs) k = ⟨0, 6, R, false⟩ := hr
  have hr2 : rns.getD k r0 = ⟨0, 6, R, false⟩ := hr
  have hle := h.len
  obtain rfl : k = 0 := hj
  rw [hr2] at hle
  have hB := hA
  simp [-List.getD_eq_getElem?_getD, w, wC, wW, wF, wK, tok, tF, gc, lenC, getD_set, hR, CA] at hB hle
  have hst := step14 (t := pst rns h0 h1 h2 z0 z1 g cells evs) hk hr1 hi (by show rns.length < 512; omega)
  refine ⟨hst.1, rns.set 0 ⟨0, 7, R, false⟩ ++ [⟨1, 0, R, false⟩], h0, h1, h2, z0, z1, g, cells, hst.2.trans rfl, ?_⟩
  refine h.start hk hr2 (by first | exact Loc.mkC y2.1 ⟨7, R, rfl, by simp [hR], by have hB := hA; simp [-List.getD_eq_getElem?_getD, CA, getD_set, hR] at hB ⊢ <;> omega⟩ | (rw [hj]; exact Loc.mkC y2.1 ⟨7, R, rfl, by simp [hR], by have hB := hA; simp [-List.getD_eq_getElem?_getD, CA, getD_set, hR] at hB ⊢ <;> omega⟩)) (Loc.mkW (by omega) (by omega) ⟨0, R, rfl, hR, by unfold WA; omega⟩) ?_ ?_ ?_ ?_
  · (have hB := hA; simp [-List.getD_eq_getElem?_getD, w, wC, wW, wF, wK, tok, tF, gc, lenC, getD_set, hR, CA] at hB ⊢ <;> omega)
  · (have hB := hA; simp [-List.getD_eq_getElem?_getD, w, wC, wW, wF, wK, tok, tF, gc, lenC, getD_set, hR, CA] at hB ⊢ <;> omega)
  · (have hB := hA; simp [-List.getD_eq_getElem?_getD, w, wC, wW, wF, wK, tok, tF, gc, lenC, getD_set, hR, CA] at hB ⊢ <;> omega)
  · (have hB := hA; simp [-List.getD_eq_getElem?_getD, w, wC, wW, wF, wK, tok, tF, gc, lenC, getD_set, hR, CA] at hB ⊢ <;> omega)
theorem goC7 {n a q b : Int} (hy : Hy n a q b) {rns : List Rn} {h0 h1 h2 : List Int} {z0 z1 g : Int} {cells : List Int} {evs : List Ev} (h : IV n a b rns h0 h1 h2 z0 z1 g cells evs.length) {k : Nat} (hk : k < rns.length) (hj : k = 0) {R : List Int} (hr : rns.getD k r0 = ⟨0, 7, R, false⟩) (hR : R.length = 8) (hA : CA a z1 h1.length 7 (R.getD 0 0) (R.getD 1 0) (R.getD 2 0)) (hc : can (psys n a q b) (pst rns h0 h1 h2 z0 z1 g cells evs) k = true) : Nxt n a q b (pst rns h0 h1 h2 z0 z1 g cells evs) k := by
  have y1 := hy.n0
  have y2 := hy.a0
  have y3 := hy.b0
  have hlb := h.lenb y2.1
  have hgb := h.g0
  have hz0r := h.z0r
  have hz1r := h.z1r
  have hs0 := h.s0n
  have hs1 := h.s1n
  have hi : ins (psys n a q b) (pst rns h0 h1 h2 z0 z1 g cells evs) k = ⟨2, 0, 2, 0⟩ := by unfold ins rn pst; dsimp only; rw [hr]; rfl
  have hr1 : rn (pst rns h0 h1 h2 z0 z1 g cells evs) k = ⟨0, 7, R, false⟩ := hr
  have hr2 : rns.getD k r0 = ⟨0, 7, R, false⟩ := hr
  have hB := hA
  simp [-List.getD_eq_getElem?_getD, CA] at hB
  have hw : IntKind.i64.wrap (R.getD 0 0 + R.getD 2 0) = R.getD 0 0 + 1 := by rw [wrap_id (by omega)]; omega
  have hst := step2 (t := pst rns h0 h1 h2 z0 z1 g cells evs) hk hr1 hi
  rw [show ((0 : Int).toNat) = 0 from rfl, show ((2 : Int).toNat) = 2 from rfl, hw] at hst
  clear hB
  have hst := hst
  refine ⟨hst.1, rns.set k ⟨0, 8, R.set 0 (R.getD 0 0 + 1), false⟩, h0, h1, h2, z0, z1, g, cells, hst.2.trans rfl, ?_⟩
  refine h.move hk hr2 (by first | exact Loc.mkC y2.1 ⟨8, R.set 0 (R.getD 0 0 + 1), rfl, by simp [hR], by have hB := hA; simp [-List.getD_eq_getElem?_getD, CA, getD_set, hR] at hB ⊢ <;> omega⟩ | (rw [hj]; exact Loc.mkC y2.1 ⟨8, R.set 0 (R.getD 0 0 + 1), rfl, by simp [hR], by have hB := hA; simp [-List.getD_eq_getElem?_getD, CA, getD_set, hR] at hB ⊢ <;> omega⟩)) (fun j hj hne hL => hL) (by omega) (by omega) (by omega) (by omega) ?_ ?_ ?_ h.cl ?_
  · (have hB := hA; simp [-List.getD_eq_getElem?_getD, w, wC, wW, wF, wK, tok, tF, gc, lenC, getD_set, hR, CA] at hB ⊢ <;> omega)
  · (have hB := hA; simp [-List.getD_eq_getElem?_getD, w, wC, wW, wF, wK, tok, tF, gc, lenC, getD_set, hR, CA] at hB ⊢ <;> omega)
  · (have hB := hA; simp [-List.getD_eq_getElem?_getD, w, wC, wW, wF, wK, tok, tF, gc, lenC, getD_set, hR, CA] at hB ⊢ <;> omega)
  · (intro hk0; first | omega | (have hB := hA; simp [-List.getD_eq_getElem?_getD, w, wC, wW, wF, wK, tok, tF, gc, lenC, getD_set, hR, CA] at hB ⊢ <;> omega))
theorem goC8 {n a q b : Int} (hy : Hy n a q b) {rns : List Rn} {h0 h1 h2 : List Int} {z0 z1 g : Int} {cells : List Int} {evs : List Ev} (h : IV n a b rns h0 h1 h2 z0 z1 g cells evs.length) {k : Nat} (hk : k < rns.length) (hj : k = 0) {R : List Int} (hr : rns.getD k r0 = ⟨0, 8, R, false⟩) (hR : R.length = 8) (hA : CA a z1 h1.length 8 (R.getD 0 0) (R.getD 1 0) (R.getD 2 0)) (hc : can (psys n a q b) (pst rns h0 h1 h2 z0 z1 g cells evs) k = true) : Nxt n a q b (pst rns h0 h1 h2 z0 z1 g cells evs) k := by
  have y1 := hy.n0
  have y2 := hy.a0
  have y3 := hy.b0
  have hlb := h.lenb y2.1
  have hgb := h.g0
  have hz0r := h.z0r
  have hz1r := h.z1r
  have hs0 := h.s0n
  have hs1 := h.s1n
  have hi : ins (psys n a q b) (pst rns h0 h1 h2 z0 z1 g cells evs) k = ⟨4, 0, 0, 3⟩ := by unfold ins rn pst; dsimp only; rw [hr]; rfl
  have hr1 : rn (pst rns h0 h1 h2 z0 z1 g cells evs) k = ⟨0, 8, R, false⟩ := hr
  have hr2 : rns.getD k r0 = ⟨0, 8, R, false⟩ := hr
  have hst := step4 (t := pst rns h0 h1 h2 z0 z1 g cells evs) hk hr1 hi
  refine ⟨hst.1, rns.set k ⟨0, 3, R, false⟩, h0, h1, h2, z0, z1, g, cells, hst.2.trans rfl, ?_⟩
  refine h.move hk hr2 (by first | exact Loc.mkC y2.1 ⟨3, R, rfl, by simp [hR], by have hB := hA; simp [-List.getD_eq_getElem?_getD, CA, getD_set, hR] at hB ⊢ <;> omega⟩ | (rw [hj]; exact Loc.mkC y2.1 ⟨3, R, rfl, by simp [hR], by have hB := hA; simp [-List.getD_eq_getElem?_getD, CA, getD_set, hR] at hB ⊢ <;> omega⟩)) (fun j hj hne hL => hL) (by omega) (by omega) (by omega) (by omega) ?_ ?_ ?_ h.cl ?_
  · (have hB := hA; simp [-List.getD_eq_getElem?_getD, w, wC, wW, wF, wK, tok, tF, gc, lenC, getD_set, hR, CA] at hB ⊢ <;> omega)
  · (have hB := hA; simp [-List.getD_eq_getElem?_getD, w, wC, wW, wF, wK, tok, tF, gc, lenC, getD_set, hR, CA] at hB ⊢ <;> omega)
  · (have hB := hA; simp [-List.getD_eq_getElem?_getD, w, wC, wW, wF, wK, tok, tF, gc, lenC, getD_set, hR, CA] at hB ⊢ <;> omega)
  · (intro hk0; first | omega | (have hB := hA; simp [-List.getD_eq_getElem?_getD, w, wC, wW, wF, wK, tok, tF, gc, lenC, getD_set, hR, CA] at hB ⊢ <;> omega))
theorem goC9 {n a q b : Int} (hy : Hy n a q b) {rns : List Rn} {h0 h1 h2 : List Int} {z0 z1 g : Int} {cells : List Int} {evs : List Ev} (h : IV n a b rns h0 h1 h2 z0 z1 g cells evs.length) {k : Nat} (hk : k < rns.length) (hj : k = 0) {R : List Int} (hr : rns.getD k r0 = ⟨0, 9, R, false⟩) (hR : R.length = 8) (hA : CA a z1 h1.length 9 (R.getD 0 0) (R.getD 1 0) (R.getD 2 0)) (hc : can (psys n a q b) (pst rns h0 h1 h2 z0 z1 g cells evs) k = true) : Nxt n a q b (pst rns h0 h1 h2 z0 z1 g cells evs) k := by
  have y1 := hy.n0
  have y2 := hy.a0
  have y3 := hy.b0
  have hlb := h.lenb y2.1
  have hgb := h.g0
  have hz0r := h.z0r
  have hz1r := h.z1r
  have hs0 := h.s0n
  have hs1 := h.s1n
  have hi : ins (psys n a q b) (pst rns h0 h1 h2 z0 z1 g cells evs) k = ⟨14, 2, 0, 0⟩ := by unfold ins rn pst; dsimp only; rw [hr]; rfl
  have hr1 : rn (pst rns h0 h1 h2 z0 z1 g cells evs) k = ⟨0, 9, R, false⟩ := hr
  have hr2 : rns.getD k r0 = ⟨0, 9, R, false⟩ := hr
  have hle := h.len
  obtain rfl : k = 0 := hj
  rw [hr2] at hle
  have hB := hA
  simp [-List.getD_eq_getElem?_getD, w, wC, wW, wF, wK, tok, tF, gc, lenC, getD_set, hR, CA] at hB hle
  have hst := step14 (t := pst rns h0 h1 h2 z0 z1 g cells evs) hk hr1 hi (by show rns.length < 512; omega)
  refine ⟨hst.1, rns.set 0 ⟨0, 10, R, false⟩ ++ [⟨2, 0, R, false⟩], h0, h1, h2, z0, z1, g, cells, hst.2.trans rfl, ?_⟩
  refine h.start hk hr2 (by first | exact Loc.mkC y2.1 ⟨10, R, rfl, by simp [hR], by have hB := hA; simp [-List.getD_eq_getElem?_getD, CA, getD_set, hR] at hB ⊢ <;> omega⟩ | (rw [hj]; exact Loc.mkC y2.1 ⟨10, R, rfl, by simp [hR], by have hB := hA; simp [-List.getD_eq_getElem?_getD, CA, getD_set, hR] at hB ⊢ <;> omega⟩)) (Loc.mkF y2.1 (by omega) ⟨0, R, rfl, hR, by unfold FA; omega⟩) ?_ ?_ ?_ ?_
  · (have hB := hA; simp [-List.getD_eq_getElem?_getD, w, wC, wW, wF, wK, tok, tF, gc, lenC, getD_set, hR, CA] at hB ⊢ <;> omega)
  · (have hB := hA; simp [-List.getD_eq_getElem?_getD, w, wC, wW, wF, wK, tok, tF, gc, lenC, getD_set, hR, CA] at hB ⊢ <;> omega)
  · (have hB := hA; simp [-List.getD_eq_getElem?_getD, w, wC, wW, wF, wK, tok, tF, gc, lenC, getD_set, hR, CA] at hB ⊢ <;> omega)
  · (have hB := hA; simp [-List.getD_eq_getElem?_getD, w, wC, wW, wF, wK, tok, tF, gc, lenC, getD_set, hR, CA] at hB ⊢ <;> omega)
theorem goC10 {n a q b : Int} (hy : Hy n a q b) {rns : List Rn} {h0 h1 h2 : List Int} {z0 z1 g : Int} {cells : List Int} {evs : List Ev} (h : IV n a b rns h0 h1 h2 z0 z1 g cells evs.length) {k : Nat} (hk : k < rns.length) (hj : k = 0) {R : List Int} (hr : rns.getD k r0 = ⟨0, 10, R, false⟩) (hR : R.length = 8) (hA : CA a z1 h1.length 10 (R.getD 0 0) (R.getD 1 0) (R.getD 2 0)) (hc : can (psys n a q b) (pst rns h0 h1 h2 z0 z1 g cells evs) k = true) : Nxt n a q b (pst rns h0 h1 h2 z0 z1 g cells evs) k := by
  have y1 := hy.n0
  have y2 := hy.a0
  have y3 := hy.b0
  have hlb := h.lenb y2.1
  have hgb := h.g0
  have hz0r := h.z0r
  have hz1r := h.z1r
  have hs0 := h.s0n
  have hs1 := h.s1n
  have hi : ins (psys n a q b) (pst rns h0 h1 h2 z0 z1 g cells evs) k = ⟨14, 3, 0, 0⟩ := by unfold ins rn pst; dsimp only; rw [hr]; rfl
  have hr1 : rn (pst rns h0 h1 h2 z0 z1 g cells evs) k = ⟨0, 10, R, false⟩ := hr
  have hr2 : rns.getD k r0 = ⟨0, 10, R, false⟩ := hr
  have hle := h.len
  obtain rfl : k = 0 := hj
  rw [hr2] at hle
  have hB := hA
  simp [-List.getD_eq_getElem?_getD, w, wC, wW, wF, wK, tok, tF, gc, lenC, getD_set, hR, CA] at hB hle
  have hst := step14 (t := pst rns h0 h1 h2 z0 z1 g cells evs) hk hr1 hi (by show rns.length < 512; omega)
  refine ⟨hst.1, rns.set 0 ⟨0, 11, R, false⟩ ++ [⟨3, 0, R, false⟩], h0, h1, h2, z0, z1, g, cells, hst.2.trans rfl, ?_⟩
  refine h.start hk hr2 (by first | exact Loc.mkC y2.1 ⟨11, R, rfl, by simp [hR], by have hB := hA; simp [-List.getD_eq_getElem?_getD, CA, getD_set, hR] at hB ⊢ <;> omega⟩ | (rw [hj]; exact Loc.mkC y2.1 ⟨11, R, rfl, by simp [hR], by have hB := hA; simp [-List.getD_eq_getElem?_getD, CA, getD_set, hR] at hB ⊢ <;> omega⟩)) (Loc.mkK y2.1 (by omega) ⟨0, R, rfl, hR, by unfold KA; omega⟩) ?_ ?_ ?_ ?_
  · (have hB := hA; simp [-List.getD_eq_getElem?_getD, w, wC, wW, wF, wK, tok, tF, gc, lenC, getD_set, hR, CA] at hB ⊢ <;> omega)
  · (have hB := hA; simp [-List.getD_eq_getElem?_getD, w, wC, wW, wF, wK, tok, tF, gc, lenC, getD_set, hR, CA] at hB ⊢ <;> omega)
  · (have hB := hA; simp [-List.getD_eq_getElem?_getD, w, wC, wW, wF, wK, tok, tF, gc, lenC, getD_set, hR, CA] at hB ⊢ <;> omega)
  · (have hB := hA; simp [-List.getD_eq_getElem?_getD, w, wC, wW, wF, wK, tok, tF, gc, lenC, getD_set, hR, CA] at hB ⊢ <;> omega)
theorem goC11 {n a q b : Int} (hy : Hy n a q b) {rns : List Rn} {h0 h1 h2 : List Int} {z0 z1 g : Int} {cells : List Int} {evs : List Ev} (h : IV n a b rns h0 h1 h2 z0 z1 g cells evs.length) {k : Nat} (hk : k < rns.length) (hj : k = 0) {R : List Int} (hr : rns.getD k r0 = ⟨0, 11, R, false⟩) (hR : R.length = 8) (hA : CA a z1 h1.length 11 (R.getD 0 0) (R.getD 1 0) (R.getD 2 0)) (hc : can (psys n a q b) (pst rns h0 h1 h2 z0 z1 g cells evs) k = true) : Nxt n a q b (pst rns h0 h1 h2 z0 z1 g cells evs) k := by
  have y1 := hy.n0
  have y2 := hy.a0
  have y3 := hy.b0
  have hlb := h.lenb y2.1
  have hgb := h.g0
  have hz0r := h.z0r
  have hz1r := h.z1r
  have hs0 := h.s0n
  have hs1 := h.s1n
  have hi : ins (psys n a q b) (pst rns h0 h1 h2 z0 z1 g cells evs) k = ⟨6, 1, 3, 14⟩ := by unfold ins rn pst; dsimp only; rw [hr]; rfl
  have hr1 : rn (pst rns h0 h1 h2 z0 z1 g cells evs) k = ⟨0, 11, R, false⟩ := hr
  have hr2 : rns.getD k r0 = ⟨0, 11, R, false⟩ := hr
  rcases hH : h1 with _ | ⟨x, xs⟩
  · rw [can6 (by rw [hr1]) hi] at hc
    subst hH
    have hz : z1 = 1 := by simpa [pst] using hc
    have hst := step6e (t := pst rns h0 [] h2 z0 z1 g cells evs) hk hr1 hi rfl
    refine ⟨hst.1, rns.set k ⟨0, 14, R, false⟩, h0, [], h2, z0, z1, g, cells, hst.2.trans rfl, ?_⟩
    refine h.move hk hr2 (by first | exact Loc.mkC y2.1 ⟨14, R, rfl, by simp [hR], by have hB := hA; simp [-List.getD_eq_getElem?_getD, CA, getD_set, hR] at hB ⊢ <;> omega⟩ | (rw [hj]; exact Loc.mkC y2.1 ⟨14, R, rfl, by simp [hR], by have hB := hA; simp [-List.getD_eq_getElem?_getD, CA, getD_set, hR] at hB ⊢ <;> omega⟩)) (fun j hj hne hL => hL) (by omega) (by omega) (by omega) (by omega) ?_ ?_ ?_ h.cl ?_
    · (have hB := hA; simp [-List.getD_eq_getElem?_getD, w, wC, wW, wF, wK, tok, tF, gc, lenC, getD_set, hR, CA] at hB ⊢ <;> omega)
    · (have hB := hA; simp [-List.getD_eq_getElem?_getD, w, wC, wW, wF, wK, tok, tF, gc, lenC, getD_set, hR, CA] at hB ⊢ <;> omega)
    · (have hB := hA; simp [-List.getD_eq_getElem?_getD, w, wC, wW, wF, wK, tok, tF, gc, lenC, getD_set, hR, CA] at hB ⊢ <;> omega)
    · (intro hk0; first | omega | (have hB := hA; simp [-List.getD_eq_getElem?_getD, w, wC, wW, wF, wK, tok, tF, gc, lenC, getD_set, hR, CA] at hB ⊢ <;> omega))
  · subst hH
    have hln : ((x :: xs).length : Int) = xs.length + 1 := by simp
    have hst := step6 (t := pst rns h0 (x :: xs) h2 z0 z1 g cells evs) hk hr1 hi (x := x) (xs := xs) rfl
    refine ⟨hst.1, rns.set k ⟨0, 12, R.set 3 x, false⟩, h0, xs, h2, z0, z1, g, cells, hst.2.trans rfl, ?_⟩
    refine h.move hk hr2 (by first | exact Loc.mkC y2.1 ⟨12, R.set 3 x, rfl, by simp [hR], by have hB := hA; simp [-List.getD_eq_getElem?_getD, CA, getD_set, hR] at hB ⊢ <;> omega⟩ | (rw [hj]; exact Loc.mkC y2.1 ⟨12, R.set 3 x, rfl, by simp [hR], by have hB := hA; simp [-List.getD_eq_getElem?_getD, CA, getD_set, hR] at hB ⊢ <;> omega⟩)) (fun j hj hne hL => hL.mono (fun _ _ _ => by first | omega | simp_all) (fun _ _ _ _ => by first | omega | simp_all) (fun _ => by first | rfl | omega) (fun _ => by first | exact ⟨rfl, id⟩ | omega)) (by omega) (by omega) (by omega) (by omega) ?_ ?_ ?_ h.cl ?_
    · (have hB := hA; simp [-List.getD_eq_getElem?_getD, w, wC, wW, wF, wK, tok, tF, gc, lenC, getD_set, hR, CA] at hB ⊢ <;> omega)
    · (have hB := hA; simp [-List.getD_eq_getElem?_getD, w, wC, wW, wF, wK, tok, tF, gc, lenC, getD_set, hR, CA] at hB ⊢ <;> omega)
    · (have hB := hA; simp [-List.getD_eq_getElem?_getD, w, wC, wW, wF, wK, tok, tF, gc, lenC, getD_set, hR, CA] at hB ⊢ <;> omega)
    · (intro hk0; first | omega | (have hB := hA; simp [-List.getD_eq_getElem?_getD, w, wC, wW, wF, wK, tok, tF, gc, lenC, getD_set, hR, CA] at hB ⊢ <;> omega))
theorem goC12 {n a q b : Int} (hy : Hy n a q b) {rns : List Rn} {h0 h1 h2 : List Int} {z0 z1 g : Int} {cells : List Int} {evs : List Ev} (h : IV n a b rns h0 h1 h2 z0 z1 g cells evs.length) {k : Nat} (hk : k < rns.length) (hj : k = 0) {R : List Int} (hr : rns.getD k r0 = ⟨0, 12, R, false⟩) (hR : R.length = 8) (hA : CA a z1 h1.length 12 (R.getD 0 0) (R.getD 1 0) (R.getD 2 0)) (hc : can (psys n a q b) (pst rns h0 h1 h2 z0 z1 g cells evs) k = true) : Nxt n a q b (pst rns h0 h1 h2 z0 z1 g cells evs) k := by
  have y1 := hy.n0
  have y2 := hy.a0
  have y3 := hy.b0
  have hlb := h.lenb y2.1
  have hgb := h.g0
  have hz0r := h.z0r
  have hz1r := h.z1r
  have hs0 := h.s0n
  have hs1 := h.s1n
  have hi : ins (psys n a q b) (pst rns h0 h1 h2 z0 z1 g cells evs) k = ⟨15, 1, 3, 0⟩ := by unfold ins rn pst; dsimp only; rw [hr]; rfl
  have hr1 : rn (pst rns h0 h1 h2 z0 z1 g cells evs) k = ⟨0, 12, R, false⟩ := hr
  have hr2 : rns.getD k r0 = ⟨0, 12, R, false⟩ := hr
  have hst := step15 (t := pst rns h0 h1 h2 z0 z1 g cells evs) hk hr1 hi
  refine ⟨hst.1, rns.set k ⟨0, 13, R, false⟩, h0, h1, h2, z0, z1, g, cells, hst.2.trans rfl, ?_⟩
  refine h.move hk hr2 (by first | exact Loc.mkC y2.1 ⟨13, R, rfl, by simp [hR], by have hB := hA; simp [-List.getD_eq_getElem?_getD, CA, getD_set, hR] at hB ⊢ <;> omega⟩ | (rw [hj]; exact Loc.mkC y2.1 ⟨13, R, rfl, by simp [hR], by have hB := hA; simp [-List.getD_eq_getElem?_getD, CA, getD_set, hR] at hB ⊢ <;> omega⟩)) (fun j hj hne hL => hL) (by omega) (by omega) (by omega) (by omega) ?_ ?_ ?_ h.cl ?_
  · (have hB := hA; simp [-List.getD_eq_getElem?_getD, w, wC, wW, wF, wK, tok, tF, gc, lenC, getD_set, hR, CA] at hB ⊢ <;> omega)
  · (have hB := hA; simp [-List.getD_eq_getElem?_getD, w, wC, wW, wF, wK, tok, tF, gc, lenC, getD_set, hR, CA] at hB ⊢ <;> omega)
  · (have hB := hA; simp [-List.getD_eq_getElem?_getD, w, wC, wW, wF, wK, tok, tF, gc, lenC, getD_set, hR, CA] at hB ⊢ <;> omega)
  · (intro hk0; first | omega | (have hB := hA; simp [-List.getD_eq_getElem?_getD, w, wC, wW, wF, wK, tok, tF, gc, lenC, getD_set, hR, CA] at hB ⊢ <;> omega))
theorem goC13 {n a q b : Int} (hy : Hy n a q b) {rns : List Rn} {h0 h1 h2 : List Int} {z0 z1 g : Int} {cells : List Int} {evs : List Ev} (h : IV n a b rns h0 h1 h2 z0 z1 g cells evs.length) {k : Nat} (hk : k < rns.length) (hj : k = 0) {R : List Int} (hr : rns.getD k r0 = ⟨0, 13, R, false⟩) (hR : R.length = 8) (hA : CA a z1 h1.length 13 (R.getD 0 0) (R.getD 1 0) (R.getD 2 0)) (hc : can (psys n a q b) (pst rns h0 h1 h2 z0 z1 g cells evs) k = true) : Nxt n a q b (pst rns h0 h1 h2 z0 z1 g cells evs) k := by
  have y1 := hy.n0
  have y2 := hy.a0
  have y3 := hy.b0
  have hlb := h.lenb y2.1
  have hgb := h.g0
  have hz0r := h.z0r
  have hz1r := h.z1r
  have hs0 := h.s0n
  have hs1 := h.s1n
  have hi : ins (psys n a q b) (pst rns h0 h1 h2 z0 z1 g cells evs) k = ⟨4, 0, 0, 11⟩ := by unfold ins rn pst; dsimp only; rw [hr]; rfl
  have hr1 : rn (pst rns h0 h1 h2 z0 z1 g cells evs) k = ⟨0, 13, R, false⟩ := hr
  have hr2 : rns.getD k r0 = ⟨0, 13, R, false⟩ := hr
  have hst := step4 (t := pst rns h0 h1 h2 z0 z1 g cells evs) hk hr1 hi
  refine ⟨hst.1, rns.set k ⟨0, 11, R, false⟩, h0, h1, h2, z0, z1, g, cells, hst.2.trans rfl, ?_⟩
  refine h.move hk hr2 (by first | exact Loc.mkC y2.1 ⟨11, R, rfl, by simp [hR], by have hB := hA; simp [-List.getD_eq_getElem?_getD, CA, getD_set, hR] at hB ⊢ <;> omega⟩ | (rw [hj]; exact Loc.mkC y2.1 ⟨11, R, rfl, by simp [hR], by have hB := hA; simp [-List.getD_eq_getElem?_getD, CA, getD_set, hR] at hB ⊢ <;> omega⟩)) (fun j hj hne hL => hL) (by omega) (by omega) (by omega) (by omega) ?_ ?_ ?_ h.cl ?_
  · (have hB := hA; simp [-List.getD_eq_getElem?_getD, w, wC, wW, wF, wK, tok, tF, gc, lenC, getD_set, hR, CA] at hB ⊢ <;> omega)
  · (have hB := hA; simp [-List.getD_eq_getElem?_getD, w, wC, wW, wF, wK, tok, tF, gc, lenC, getD_set, hR, CA] at hB ⊢ <;> omega)
  · (have hB := hA; simp [-List.getD_eq_getElem?_getD, w, wC, wW, wF, wK, tok, tF, gc, lenC, getD_set, hR, CA] at hB ⊢ <;> omega)
  · (intro hk0; first | omega | (have hB := hA; simp [-List.getD_eq_getElem?_getD, w, wC, wW, wF, wK, tok, tF, gc, lenC, getD_set, hR, CA] at hB ⊢ <;> omega))
theorem goC14 {n a q b : Int} (hy : Hy n a q b) {rns : List Rn} {h0 h1 h2 : List Int} {z0 z1 g : Int} {cells : List Int} {evs : List Ev} (h : IV n a b rns h0 h1 h2 z0 z1 g cells evs.length) {k : Nat} (hk : k < rns.length) (hj : k = 0) {R : List Int} (hr : rns.getD k r0 = ⟨0, 14, R, false⟩) (hR : R.length = 8) (hA : CA a z1 h1.length 14 (R.getD 0 0) (R.getD 1 0) (R.getD 2 0)) (hc : can (psys n a q b) (pst rns h0 h1 h2 z0 z1 g cells evs) k = true) : Nxt n a q b (pst rns h0 h1 h2 z0 z1 g cells evs) k := by
  have y1 := hy.n0
  have y2 := hy.a0
  have y3 := hy.b0
  have hlb := h.lenb y2.1
  have hgb := h.g0
  have hz0r := h.z0r
  have hz1r := h.z1r
  have hs0 := h.s0n
  have hs1 := h.s1n
  have hi : ins (psys n a q b) (pst rns h0 h1 h2 z0 z1 g cells evs) k = ⟨16, 0, 0, 0⟩ := by unfold ins rn pst; dsimp only; rw [hr]; rfl
  have hr1 : rn (pst rns h0 h1 h2 z0 z1 g cells evs) k = ⟨0, 14, R, false⟩ := hr
  have hr2 : rns.getD k r0 = ⟨0, 14, R, false⟩ := hr
  have hst := step16 (t := pst rns h0 h1 h2 z0 z1 g cells evs) hk hr1 hi
  refine ⟨hst.1, rns.set k ⟨0, 15, R, true⟩, h0, h1, h2, z0, z1, g, cells, hst.2.trans rfl, ?_⟩
  refine h.move hk hr2 (by first | exact Loc.mkC y2.1 ⟨15, R, rfl, by simp [hR], by have hB := hA; simp [-List.getD_eq_getElem?_getD, CA, getD_set, hR] at hB ⊢ <;> omega⟩ | (rw [hj]; exact Loc.mkC y2.1 ⟨15, R, rfl, by simp [hR], by have hB := hA; simp [-List.getD_eq_getElem?_getD, CA, getD_set, hR] at hB ⊢ <;> omega⟩)) (fun j hj hne hL => hL) (by omega) (by omega) (by omega) (by omega) ?_ ?_ ?_ h.cl ?_
  · (have hB := hA; simp [-List.getD_eq_getElem?_getD, w, wC, wW, wF, wK, tok, tF, gc, lenC, getD_set, hR, CA] at hB ⊢ <;> omega)
  · (have hB := hA; simp [-List.getD_eq_getElem?_getD, w, wC, wW, wF, wK, tok, tF, gc, lenC, getD_set, hR, CA] at hB ⊢ <;> omega)
  · (have hB := hA; simp [-List.getD_eq_getElem?_getD, w, wC, wW, wF, wK, tok, tF, gc, lenC, getD_set, hR, CA] at hB ⊢ <;> omega)
  · (intro hk0; first | omega | (have hB := hA; simp [-List.getD_eq_getElem?_getD, w, wC, wW, wF, wK, tok, tF, gc, lenC, getD_set, hR, CA] at hB ⊢ <;> omega))
theorem goC {n a q b : Int} (hy : Hy n a q b) {rns : List Rn} {h0 h1 h2 : List Int} {z0 z1 g : Int} {cells : List Int} {evs : List Ev} (h : IV n a b rns h0 h1 h2 z0 z1 g cells evs.length) {k : Nat} (hk : k < rns.length) (hj : k = 0) (hc : can (psys n a q b) (pst rns h0 h1 h2 z0 z1 g cells evs) k = true) : Nxt n a q b (pst rns h0 h1 h2 z0 z1 g cells evs) k := by
  have y1 := hy.n0
  have y2 := hy.a0
  have y3 := hy.b0
  have hlb := h.lenb y2.1
  have hgb := h.g0
  have hz0r := h.z0r
  have hz1r := h.z1r
  have hs0 := h.s0n
  have hs1 := h.s1n
  have he := can_going hc
  obtain ⟨p, R, hr, hR, hA⟩ := (h.loc k hk).c hj
  have hre : (rn (pst rns h0 h1 h2 z0 z1 g cells evs) k).ended = decide (p = 15) := by unfold rn pst; dsimp only; rw [hr]
  rw [hre] at he
  have hpe : p ≠ 15 := of_decide_eq_false he
  clear hre he
  have hp : p = 0 ∨ p = 1 ∨ p = 2 ∨ p = 3 ∨ p = 4 ∨ p = 5 ∨ p = 6 ∨ p = 7 ∨ p = 8 ∨ p = 9 ∨ p = 10 ∨ p = 11 ∨ p = 12 ∨ p = 13 ∨ p = 14 := by unfold CA at hA; omega
  rcases hp with rfl | rfl | rfl | rfl | rfl | rfl | rfl | rfl | rfl | rfl | rfl | rfl | rfl | rfl | rfl
  · exact goC0 hy h hk hj hr hR hA hc
  · exact goC1 hy h hk hj hr hR hA hc
  · exact goC2 hy h hk hj hr hR hA hc
  · exact goC3 hy h hk hj hr hR hA hc
  · exact goC4 hy h hk hj hr hR hA hc
  · exact goC5 hy h hk hj hr hR hA hc
  · exact goC6 hy h hk hj hr hR hA hc
  · exact goC7 hy h hk hj hr hR hA hc
  · exact goC8 hy h hk hj hr hR hA hc
  · exact goC9 hy h hk hj hr hR hA hc
  · exact goC10 hy h hk hj hr hR hA hc
  · exact goC11 hy h hk hj hr hR hA hc
  · exact goC12 hy h hk hj hr hR hA hc
  · exact goC13 hy h hk hj hr hR hA hc
  · exact goC14 hy h hk hj hr hR hA hc
theorem goW0 {n a q b : Int} (hy : Hy n a q b) {rns : List Rn} {h0 h1 h2 : List Int} {z0 z1 g : Int} {cells : List Int} {evs : List Ev} (h : IV n a b rns h0 h1 h2 z0 z1 g cells evs.length) {k : Nat} (hk : k < rns.length) (hj : 1 ≤ k) (hj2 : (k : Int) ≤ a) {R : List Int} (hr : rns.getD k r0 = ⟨1, 0, R, false⟩) (hR : R.length = 8) (hA : WA z0 h0.length 0) (hc : can (psys n a q b) (pst rns h0 h1 h2 z0 z1 g cells evs) k = true) : Nxt n a q b (pst rns h0 h1 h2 z0 z1 g cells evs) k := by
  have y1 := hy.n0
  have y2 := hy.a0
  have y3 := hy.b0
  have hlb := h.lenb y2.1
  have hgb := h.g0
  have hz0r := h.z0r
  have hz1r := h.z1r
  have hs0 := h.s0n
  have hs1 := h.s1n
  have hi : ins (psys n a q b) (pst rns h0 h1 h2 z0 z1 g cells evs) k = ⟨6, 0, 3, 6⟩ := by unfold ins rn pst; dsimp only; rw [hr]; rfl
  have hr1 : rn (pst rns h0 h1 h2 z0 z1 g cells evs) k = ⟨1, 0, R, false⟩ := hr
  have hr2 : rns.getD k r0 = ⟨1, 0, R, false⟩ := hr
  rcases hH : h0 with _ | ⟨x, xs⟩
  · rw [can6 (by rw [hr1]) hi] at hc
    subst hH
    have hz : z0 = 1 := by simpa [pst] using hc
    have hst := step6e (t := pst rns [] h1 h2 z0 z1 g cells evs) hk hr1 hi rfl
    refine ⟨hst.1, rns.set k ⟨1, 6, R, false⟩, [], h1, h2, z0, z1, g, cells, hst.2.trans rfl, ?_⟩
    refine h.move hk hr2 (Loc.mkW hj hj2 ⟨6, R, rfl, by simp [hR], by have hB := hA; simp [-List.getD_eq_getElem?_getD, WA, getD_set, hR] at hB ⊢ <;> omega⟩) (fun j hj hne hL => hL) (by omega) (by omega) (by omega) (by omega) ?_ ?_ ?_ h.cl ?_
    · (have hB := hA; simp [-List.getD_eq_getElem?_getD, w, wC, wW, wF, wK, tok, tF, gc, lenC, getD_set, hR, WA] at hB ⊢ <;> omega)
    · (have hB := hA; simp [-List.getD_eq_getElem?_getD, w, wC, wW, wF, wK, tok, tF, gc, lenC, getD_set, hR, WA] at hB ⊢ <;> omega)
    · (have hB := hA; simp [-List.getD_eq_getElem?_getD, w, wC, wW, wF, wK, tok, tF, gc, lenC, getD_set, hR, WA] at hB ⊢ <;> omega)
    · (intro hk0; first | omega | (have hB := hA; simp [-List.getD_eq_getElem?_getD, w, wC, wW, wF, wK, tok, tF, gc, lenC, getD_set, hR, WA] at hB ⊢ <;> omega))
  · subst hH
    have hln : ((x :: xs).length : Int) = xs.length + 1 := by simp
    have hst := step6 (t := pst rns (x :: xs) h1 h2 z0 z1 g cells evs) hk hr1 hi (x := x) (xs := xs) rfl
    refine ⟨hst.1, rns.set k ⟨1, 1, R.set 3 x, false⟩, xs, h1, h2, z0, z1, g, cells, hst.2.trans rfl, ?_⟩
    refine h.move hk hr2 (Loc.mkW hj hj2 ⟨1, R.set 3 x, rfl, by simp [hR], by have hB := hA; simp [-List.getD_eq_getElem?_getD, WA, getD_set, hR] at hB ⊢ <;> omega⟩) (fun j hj hne hL => hL.mono (fun _ _ _ => by first | omega | simp_all) (fun _ _ _ _ => by first | omega | simp_all) (fun _ => by first | rfl | omega) (fun _ => by first | exact ⟨rfl, id⟩ | omega)) (by omega) (by omega) (by omega) (by omega) ?_ ?_ ?_ h.cl ?_
    · (have hB := hA; simp [-List.getD_eq_getElem?_getD, w, wC, wW, wF, wK, tok, tF, gc, lenC, getD_set, hR, WA] at hB ⊢ <;> omega)
    · (have hB := hA; simp [-List.getD_eq_getElem?_getD, w, wC, wW, wF, wK, tok, tF, gc, lenC, getD_set, hR, WA] at hB ⊢ <;> omega)
    · (have hB := hA; simp [-List.getD_eq_getElem?_getD, w, wC, wW, wF, wK, tok, tF, gc, lenC, getD_set, hR, WA] at hB ⊢ <;> omega)
    · (intro hk0; first | omega | (have hB := hA; simp [-List.getD_eq_getElem?_getD, w, wC, wW, wF, wK, tok, tF, gc, lenC, getD_set, hR, WA] at hB ⊢ <;> omega))
theorem goW1 {n a q b : Int} (hy : Hy n a q b) {rns : List Rn} {h0 h1 h2 : List Int} {z0 z1 g : Int} {cells : List Int} {evs : List Ev} (h : IV n a b rns h0 h1 h2 z0 z1 g cells evs.length) {k : Nat} (hk : k < rns.length) (hj : 1 ≤ k) (hj2 : (k : Int) ≤ a) {R : List Int} (hr : rns.getD k r0 = ⟨1, 1, R, false⟩) (hR : R.length = 8) (hA : WA z0 h0.length 1) (hc : can (psys n a q b) (pst rns h0 h1 h2 z0 z1 g cells evs) k = true) : Nxt n a q b (pst rns h0 h1 h2 z0 z1 g cells evs) k := by
  have y1 := hy.n0
  have y2 := hy.a0
  have y3 := hy.b0
  have hlb := h.lenb y2.1
  have hgb := h.g0
  have hz0r := h.z0r
  have hz1r := h.z1r
  have hs0 := h.s0n
  have hs1 := h.s1n
  have hi : ins (psys n a q b) (pst rns h0 h1 h2 z0 z1 g cells evs) k = ⟨12, 3, 4, 0⟩ := by unfold ins rn pst; dsimp only; rw [hr]; rfl
  have hr1 : rn (pst rns h0 h1 h2 z0 z1 g cells evs) k = ⟨1, 1, R, false⟩ := hr
  have hr2 : rns.getD k r0 = ⟨1, 1, R, false⟩ := hr
  have hst := step12 (t := pst rns h0 h1 h2 z0 z1 g cells evs) hk hr1 hi
  refine ⟨hst.1, rns.set k ⟨1, 2, R.set 4 (cells.getD (cel (psys n a q b) (pst rns h0 h1 h2 z0 z1 g cells evs) k).toNat 0), false⟩, h0, h1, h2, z0, z1, g, cells, hst.2.trans rfl, ?_⟩
  refine h.move hk hr2 (Loc.mkW hj hj2 ⟨2, R.set 4 (cells.getD (cel (psys n a q b) (pst rns h0 h1 h2 z0 z1 g cells evs) k).toNat 0), rfl, by simp [hR], by have hB := hA; simp [-List.getD_eq_getElem?_getD, WA, getD_set, hR] at hB ⊢ <;> omega⟩) (fun j hj hne hL => hL) (by omega) (by omega) (by omega) (by omega) ?_ ?_ ?_ h.cl ?_
  · (have hB := hA; simp [-List.getD_eq_getElem?_getD, w, wC, wW, wF, wK, tok, tF, gc, lenC, getD_set, hR, WA] at hB ⊢ <;> omega)
  · (have hB := hA; simp [-List.getD_eq_getElem?_getD, w, wC, wW, wF, wK, tok, tF, gc, lenC, getD_set, hR, WA] at hB ⊢ <;> omega)
  · (have hB := hA; simp [-List.getD_eq_getElem?_getD, w, wC, wW, wF, wK, tok, tF, gc, lenC, getD_set, hR, WA] at hB ⊢ <;> omega)
  · (intro hk0; first | omega | (have hB := hA; simp [-List.getD_eq_getElem?_getD, w, wC, wW, wF, wK, tok, tF, gc, lenC, getD_set, hR, WA] at hB ⊢ <;> omega))
theorem goW2 {n a q b : Int} (hy : Hy n a q b) {rns : List Rn} {h0 h1 h2 : List Int} {z0 z1 g : Int} {cells : List Int} {evs : List Ev} (h : IV n a b rns h0 h1 h2 z0 z1 g cells evs.length) {k : Nat} (hk : k < rns.length) (hj : 1 ≤ k) (hj2 : (k : Int) ≤ a) {R : List Int} (hr : rns.getD k r0 = ⟨1, 2, R, false⟩) (hR : R.length = 8) (hA : WA z0 h0.length 2) (hc : can (psys n a q b) (pst rns h0 h1 h2 z0 z1 g cells evs) k = true) : Nxt n a q b (pst rns h0 h1 h2 z0 z1 g cells evs) k := by
  have y1 := hy.n0
  have y2 := hy.a0
  have y3 := hy.b0
  have hlb := h.lenb y2.1
  have hgb := h.g0
  have hz0r := h.z0r
  have hz1r := h.z1r
  have hs0 := h.s0n
  have hs1 := h.s1n
  have hi : ins (psys n a q b) (pst rns h0 h1 h2 z0 z1 g cells evs) k = ⟨15, 0, 4, 0⟩ := by unfold ins rn pst; dsimp only; rw [hr]; rfl
  have hr1 : rn (pst rns h0 h1 h2 z0 z1 g cells evs) k = ⟨1, 2, R, false⟩ := hr
  have hr2 : rns.getD k r0 = ⟨1, 2, R, false⟩ := hr
  have hst := step15 (t := pst rns h0 h1 h2 z0 z1 g cells evs) hk hr1 hi
  refine ⟨hst.1, rns.set k ⟨1, 3, R, false⟩, h0, h1, h2, z0, z1, g, cells, hst.2.trans rfl, ?_⟩
  refine h.move hk hr2 (Loc.mkW hj hj2 ⟨3, R, rfl, by simp [hR], by have hB := hA; simp [-List.getD_eq_getElem?_getD, WA, getD_set, hR] at hB ⊢ <;> omega⟩) (fun j hj hne hL => hL) (by omega) (by omega) (by omega) (by omega) ?_ ?_ ?_ h.cl ?_
  · (have hB := hA; simp [-List.getD_eq_getElem?_getD, w, wC, wW, wF, wK, tok, tF, gc, lenC, getD_set, hR, WA] at hB ⊢ <;> omega)
  · (have hB := hA; simp [-List.getD_eq_getElem?_getD, w, wC, wW, wF, wK, tok, tF, gc, lenC, getD_set, hR, WA] at hB ⊢ <;> omega)
  · (have hB := hA; simp [-List.getD_eq_getElem?_getD, w, wC, wW, wF, wK, tok, tF, gc, lenC, getD_set, hR, WA] at hB ⊢ <;> omega)
  · (intro hk0; first | omega | (have hB := hA; simp [-List.getD_eq_getElem?_getD, w, wC, wW, wF, wK, tok, tF, gc, lenC, getD_set, hR, WA] at hB ⊢ <;> omega))
theorem goW3 {n a q b : Int} (hy : Hy n a q b) {rns : List Rn} {h0 h1 h2 : List Int} {z0 z1 g : Int} {cells : List Int} {evs : List Ev} (h : IV n a b rns h0 h1 h2 z0 z1 g cells evs.length) {k : Nat} (hk : k < rns.length) (hj : 1 ≤ k) (hj2 : (k : Int) ≤ a) {R : List Int} (hr : rns.getD k r0 = ⟨1, 3, R, false⟩) (hR : R.length = 8) (hA : WA z0 h0.length 3) (hc : can (psys n a q b) (pst rns h0 h1 h2 z0 z1 g cells evs) k = true) : Nxt n a q b (pst rns h0 h1 h2 z0 z1 g cells evs) k := by
  have y1 := hy.n0
  have y2 := hy.a0
  have y3 := hy.b0
  have hlb := h.lenb y2.1
  have hgb := h.g0
  have hz0r := h.z0r
  have hz1r := h.z1r
  have hs0 := h.s0n
  have hs1 := h.s1n
  have hi : ins (psys n a q b) (pst rns h0 h1 h2 z0 z1 g cells evs) k = ⟨5, 2, 3, 0⟩ := by unfold ins rn pst; dsimp only; rw [hr]; rfl
  have hr1 : rn (pst rns h0 h1 h2 z0 z1 g cells evs) k = ⟨1, 3, R, false⟩ := hr
  have hr2 : rns.getD k r0 = ⟨1, 3, R, false⟩ := hr
  have hln : ((h2 ++ [R.getD 3 0]).length : Int) = h2.length + 1 := by simp
  have hst := step5 (t := pst rns h0 h1 h2 z0 z1 g cells evs) hk hr1 hi rfl
  refine ⟨hst.1, rns.set k ⟨1, 4, R, false⟩, h0, h1, (h2 ++ [R.getD 3 0]), z0, z1, g, cells, hst.2.trans rfl, ?_⟩
  refine h.move hk hr2 (Loc.mkW hj hj2 ⟨4, R, rfl, by simp [hR], by have hB := hA; simp [-List.getD_eq_getElem?_getD, WA, getD_set, hR] at hB ⊢ <;> omega⟩) (fun j hj hne hL => hL.mono (fun _ _ _ => by first | omega | simp_all) (fun _ _ _ _ => by first | omega | simp_all) (fun _ => by first | rfl | omega) (fun _ => by first | exact ⟨rfl, id⟩ | omega)) (by omega) (by omega) (by omega) (by omega) ?_ ?_ ?_ h.cl ?_
  · (have hB := hA; simp [-List.getD_eq_getElem?_getD, w, wC, wW, wF, wK, tok, tF, gc, lenC, getD_set, hR, WA] at hB ⊢ <;> omega)
  · (have hB := hA; simp [-List.getD_eq_getElem?_getD, w, wC, wW, wF, wK, tok, tF, gc, lenC, getD_set, hR, WA] at hB ⊢ <;> omega)
  · (have hB := hA; simp [-List.getD_eq_getElem?_getD, w, wC, wW, wF, wK, tok, tF, gc, lenC, getD_set, hR, WA] at hB ⊢ <;> omega)
  · (intro hk0; first | omega | (have hB := hA; simp [-List.getD_eq_getElem?_getD, w, wC, wW, wF, wK, tok, tF, gc, lenC, getD_set, hR, WA] at hB ⊢ <;> omega))
theorem goW4 {n a q b : Int} (hy : Hy n a q b) {rns : List Rn} {h0 h1 h2 : List Int} {z0 z1 g : Int} {cells : List Int} {evs : List Ev} (h : IV n a b rns h0 h1 h2 z0 z1 g cells evs.length) {k : Nat} (hk : k < rns.length) (hj : 1 ≤ k) (hj2 : (k : Int) ≤ a) {R : List Int} (hr : rns.getD k r0 = ⟨1, 4, R, false⟩) (hR : R.length = 8) (hA : WA z0 h0.length 4) (hc : can (psys n a q b) (pst rns h0 h1 h2 z0 z1 g cells evs) k = true) : Nxt n a q b (pst rns h0 h1 h2 z0 z1 g cells evs) k := by
  have y1 := hy.n0
  have y2 := hy.a0
  have y3 := hy.b0
  have hlb := h.lenb y2.1
  have hgb := h.g0
  have hz0r := h.z0r
  have hz1r := h.z1r
  have hs0 := h.s0n
  have hs1 := h.s1n
  have hi : ins (psys n a q b) (pst rns h0 h1 h2 z0 z1 g cells evs) k = ⟨5, 1, 4, 0⟩ := by unfold ins rn pst; dsimp only; rw [hr]; rfl
  have hr1 : rn (pst rns h0 h1 h2 z0 z1 g cells evs) k = ⟨1, 4, R, false⟩ := hr
  have hr2 : rns.getD k r0 = ⟨1, 4, R, false⟩ := hr
  have hz1 := h.open1 y2.1 (h.g1 hk (by rw [hr2]; simp [gc]))
  have hln : ((h1 ++ [R.getD 4 0]).length : Int) = h1.length + 1 := by simp
  have hst := step5 (t := pst rns h0 h1 h2 z0 z1 g cells evs) hk hr1 hi (by show decide (z1 = 1) = false; exact decide_eq_false (by omega))
  refine ⟨hst.1, rns.set k ⟨1, 5, R, false⟩, h0, (h1 ++ [R.getD 4 0]), h2, z0, z1, g, cells, hst.2.trans rfl, ?_⟩
  refine h.move hk hr2 (Loc.mkW hj hj2 ⟨5, R, rfl, by simp [hR], by have hB := hA; simp [-List.getD_eq_getElem?_getD, WA, getD_set, hR] at hB ⊢ <;> omega⟩) (fun j hj hne hL => hL.mono (fun _ _ _ => by first | omega | simp_all) (fun _ _ _ _ => by first | omega | simp_all) (fun _ => by first | rfl | omega) (fun _ => by first | exact ⟨rfl, id⟩ | omega)) (by omega) (by omega) (by omega) (by omega) ?_ ?_ ?_ h.cl ?_
  · (have hB := hA; simp [-List.getD_eq_getElem?_getD, w, wC, wW, wF, wK, tok, tF, gc, lenC, getD_set, hR, WA] at hB ⊢ <;> omega)
  · (have hB := hA; simp [-List.getD_eq_getElem?_getD, w, wC, wW, wF, wK, tok, tF, gc, lenC, getD_set, hR, WA] at hB ⊢ <;> omega)
  · (have hB := hA; simp [-List.getD_eq_getElem?_getD, w, wC, wW, wF, wK, tok, tF, gc, lenC, getD_set, hR, WA] at hB ⊢ <;> omega)
  · (intro hk0; first | omega | (have hB := hA; simp [-List.getD_eq_getElem?_getD, w, wC, wW, wF, wK, tok, tF, gc, lenC, getD_set, hR, WA] at hB ⊢ <;> omega))
theorem goW5 {n a q b : Int} (hy : Hy n a q b) {rns : List Rn} {h0 h1 h2 : List Int} {z0 z1 g : Int} {cells : List Int} {evs : List Ev} (h : IV n a b rns h0 h1 h2 z0 z1 g cells evs.length) {k : Nat} (hk : k < rns.length) (hj : 1 ≤ k) (hj2 : (k : Int) ≤ a) {R : List Int} (hr : rns.getD k r0 = ⟨1, 5, R, false⟩) (hR : R.length = 8) (hA : WA z0 h0.length 5) (hc : can (psys n a q b) (pst rns h0 h1 h2 z0 z1 g cells evs) k = true) : Nxt n a q b (pst rns h0 h1 h2 z0 z1 g cells evs) k := by
  have y1 := hy.n0
  have y2 := hy.a0
  have y3 := hy.b0
  have hlb := h.lenb y2.1
  have hgb := h.g0
  have hz0r := h.z0r
  have hz1r := h.z1r
  have hs0 := h.s0n
  have hs1 := h.s1n
  have hi : ins (psys n a q b) (pst rns h0 h1 h2 z0 z1 g cells evs) k = ⟨4, 0, 0, 0⟩ := by unfold ins rn pst; dsimp only; rw [hr]; rfl
  have hr1 : rn (pst rns h0 h1 h2 z0 z1 g cells evs) k = ⟨1, 5, R, false⟩ := hr
  have hr2 : rns.getD k r0 = ⟨1, 5, R, false⟩ := hr
  have hst := step4 (t := pst rns h0 h1 h2 z0 z1 g cells evs) hk hr1 hi
  refine ⟨hst.1, rns.set k ⟨1, 0, R, false⟩, h0, h1, h2, z0, z1, g, cells, hst.2.trans rfl, ?_⟩
  refine h.move hk hr2 (Loc.mkW hj hj2 ⟨0, R, rfl, by simp [hR], by have hB := hA; simp [-List.getD_eq_getElem?_getD, WA, getD_set, hR] at hB ⊢ <;> omega⟩) (fun j hj hne hL => hL) (by omega) (by omega) (by omega) (by omega) ?_ ?_ ?_ h.cl ?_
  · (have hB := hA; simp [-List.getD_eq_getElem?_getD, w, wC, wW, wF, wK, tok, tF, gc, lenC, getD_set, hR, WA] at hB ⊢ <;> omega)
  · (have hB := hA; simp [-List.getD_eq_getElem?_getD, w, wC, wW, wF, wK, tok, tF, gc, lenC, getD_set, hR, WA] at hB ⊢ <;> omega)
  · (have hB := hA; simp [-List.getD_eq_getElem?_getD, w, wC, wW, wF, wK, tok, tF, gc, lenC, getD_set, hR, WA] at hB ⊢ <;> omega)
  · (intro hk0; first | omega | (have hB := hA; simp [-List.getD_eq_getElem?_getD, w, wC, wW, wF, wK, tok, tF, gc, lenC, getD_set, hR, WA] at hB ⊢ <;> omega))
theorem goW6 {n a q b : Int} (hy : Hy n a q b) {rns : List Rn} {h0 h1 h2 : List Int} {z0 z1 g : Int} {cells : List Int} {evs : List Ev} (h : IV n a b rns h0 h1 h2 z0 z1 g cells evs.length) {k : Nat} (hk : k < rns.length) (hj : 1 ≤ k) (hj2 : (k : Int) ≤ a) {R : List Int} (hr : rns.getD k r0 = ⟨1, 6, R, false⟩) (hR : R.length = 8) (hA : WA z0 h0.length 6) (hc : can (psys n a q b) (pst rns h0 h1 h2 z0 z1 g cells evs) k = true) : Nxt n a q b (pst rns h0 h1 h2 z0 z1 g cells evs) k := by
  have y1 := hy.n0
  have y2 := hy.a0
  have y3 := hy.b0
  have hlb := h.lenb y2.1
  have hgb := h.g0
  have hz0r := h.z0r
  have hz1r := h.z1r
  have hs0 := h.s0n
  have hs1 := h.s1n
  have hi : ins (psys n a q b) (pst rns h0 h1 h2 z0 z1 g cells evs) k = ⟨10, 0, -1, 0⟩ := by unfold ins rn pst; dsimp only; rw [hr]; rfl
  have hr1 : rn (pst rns h0 h1 h2 z0 z1 g cells evs) k = ⟨1, 6, R, false⟩ := hr
  have hr2 : rns.getD k r0 = ⟨1, 6, R, false⟩ := hr
  have hg1 : 1 ≤ g := h.g1 hk (by rw [hr2]; simp [gc])
  have hw : IntKind.i64.wrap (g + (-1 : Int)) = g + (-1 : Int) := wrap_id (by omega)
  have hst := step10 (t := pst rns h0 h1 h2 z0 z1 g cells evs) hk hr1 hi (v := g + (-1 : Int)) hw (by omega)
  refine ⟨hst.1, rns.set k ⟨1, 7, R, false⟩, h0, h1, h2, z0, z1, (g + (-1 : Int)), cells, hst.2.trans rfl, ?_⟩
  refine h.move hk hr2 (Loc.mkW hj hj2 ⟨7, R, rfl, by simp [hR], by have hB := hA; simp [-List.getD_eq_getElem?_getD, WA, getD_set, hR] at hB ⊢ <;> omega⟩) (fun j hj hne hL => hL.mono (fun _ _ _ => by first | omega | simp_all) (fun _ _ _ _ => by first | omega | simp_all) (fun _ => by first | rfl | omega) (fun _ => by first | exact ⟨rfl, id⟩ | omega)) (by omega) (by omega) (by omega) (by omega) ?_ ?_ ?_ h.cl ?_
  · (have hB := hA; simp [-List.getD_eq_getElem?_getD, w, wC, wW, wF, wK, tok, tF, gc, lenC, getD_set, hR, WA] at hB ⊢ <;> omega)
  · (have hB := hA; simp [-List.getD_eq_getElem?_getD, w, wC, wW, wF, wK, tok, tF, gc, lenC, getD_set, hR, WA] at hB ⊢ <;> omega)
  · (have hB := hA; simp [-List.getD_eq_getElem?_getD, w, wC, wW, wF, wK, tok, tF, gc, lenC, getD_set, hR, WA] at hB ⊢ <;> omega)
  · (intro hk0; first | omega | (have hB := hA; simp [-List.getD_eq_getElem?_getD, w, wC, wW, wF, wK, tok, tF, gc, lenC, getD_set, hR, WA] at hB ⊢ <;> omega))
theorem goW7 {n a q b : Int} (hy : Hy n a q b) {rns : List Rn} {h0 h1 h2 : List Int} {z0 z1 g : Int} {cells : List Int} {evs : List Ev} (h : IV n a b rns h0 h1 h2 z0 z1 g cells evs.length) {k : Nat} (hk : k < rns.length) (hj : 1 ≤ k) (hj2 : (k : Int) ≤ a) {R : List Int} (hr : rns.getD k r0 = ⟨1, 7, R, false⟩) (hR : R.length = 8) (hA : WA z0 h0.length 7) (hc : can (psys n a q b) (pst rns h0 h1 h2 z0 z1 g cells evs) k = true) : Nxt n a q b (pst rns h0 h1 h2 z0 z1 g cells evs) k := by
  have y1 := hy.n0
  have y2 := hy.a0
  have y3 := hy.b0
  have hlb := h.lenb y2.1
  have hgb := h.g0
  have hz0r := h.z0r
  have hz1r := h.z1r
  have hs0 := h.s0n
  have hs1 := h.s1n
  have hi : ins (psys n a q b) (pst rns h0 h1 h2 z0 z1 g cells evs) k = ⟨16, 0, 0, 0⟩ := by unfold ins rn pst; dsimp only; rw [hr]; rfl
  have hr1 : rn (pst rns h0 h1 h2 z0 z1 g cells evs) k = ⟨1, 7, R, false⟩ := hr
  have hr2 : rns.getD k r0 = ⟨1, 7, R, false⟩ := hr
  have hst := step16 (t := pst rns h0 h1 h2 z0 z1 g cells evs) hk hr1 hi
  refine ⟨hst.1, rns.set k ⟨1, 8, R, true⟩, h0, h1, h2, z0, z1, g, cells, hst.2.trans rfl, ?_⟩
  refine h.move hk hr2 (Loc.mkW hj hj2 ⟨8, R, rfl, by simp [hR], by have hB := hA; simp [-List.getD_eq_getElem?_getD, WA, getD_set, hR] at hB ⊢ <;> omega⟩) (fun j hj hne hL => hL) (by omega) (by omega) (by omega) (by omega) ?_ ?_ ?_ h.cl ?_
  · (have hB := hA; simp [-List.getD_eq_getElem?_getD, w, wC, wW, wF, wK, tok, tF, gc, lenC, getD_set, hR, WA] at hB ⊢ <;> omega)
  · (have hB := hA; simp [-List.getD_eq_getElem?_getD, w, wC, wW, wF, wK, tok, tF, gc, lenC, getD_set, hR, WA] at hB ⊢ <;> omega)
  · (have hB := hA; simp [-List.getD_eq_getElem?_getD, w, wC, wW, wF, wK, tok, tF, gc, lenC, getD_set, hR, WA] at hB ⊢ <;> omega)
  · (intro hk0; first | omega | (have hB := hA; simp [-List.getD_eq_getElem?_getD, w, wC, wW, wF, wK, tok, tF, gc, lenC, getD_set, hR, WA] at hB ⊢ <;> omega))
theorem goW {n a q b : Int} (hy : Hy n a q b) {rns : List Rn} {h0 h1 h2 : List Int} {z0 z1 g : Int} {cells : List Int} {evs : List Ev} (h : IV n a b rns h0 h1 h2 z0 z1 g cells evs.length) {k : Nat} (hk : k < rns.length) (hj : 1 ≤ k) (hj2 : (k : Int) ≤ a) (hc : can (psys n a q b) (pst rns h0 h1 h2 z0 z1 g cells evs) k = true) : Nxt n a q b (pst rns h0 h1 h2 z0 z1 g cells evs) k := by
  have y1 := hy.n0
  have y2 := hy.a0
  have y3 := hy.b0
  have hlb := h.lenb y2.1
  have hgb := h.g0
  have hz0r := h.z0r
  have hz1r := h.z1r
  have hs0 := h.s0n
  have hs1 := h.s1n
  have he := can_going hc
  obtain ⟨p, R, hr, hR, hA⟩ := (h.loc k hk).w hj hj2
  have hre : (rn (pst rns h0 h1 h2 z0 z1 g cells evs) k).ended = decide (p = 8) := by unfold rn pst; dsimp only; rw [hr]
  rw [hre] at he
  have hpe : p ≠ 8 := of_decide_eq_false he
  clear hre he
  have hp : p = 0 ∨ p = 1 ∨ p = 2 ∨ p = 3 ∨ p = 4 ∨ p = 5 ∨ p = 6 ∨ p = 7 := by unfold WA at hA; omega
  rcases hp with rfl | rfl | rfl | rfl | rfl | rfl | rfl | rfl
  · exact goW0 hy h hk hj hj2 hr hR hA hc
  · exact goW1 hy h hk hj hj2 hr hR hA hc
  · exact goW2 hy h hk hj hj2 hr hR hA hc
  · exact goW3 hy h hk hj hj2 hr hR hA hc
  · exact goW4 hy h hk hj hj2 hr hR hA hc
  · exact goW5 hy h hk hj hj2 hr hR hA hc
  · exact goW6 hy h hk hj hj2 hr hR hA hc
  · exact goW7 hy h hk hj hj2 hr hR hA hc
theorem goF0 {n a q b : Int} (hy : Hy n a q b) {rns : List Rn} {h0 h1 h2 : List Int} {z0 z1 g : Int} {cells : List Int} {evs : List Ev} (h : IV n a b rns h0 h1 h2 z0 z1 g cells evs.length) {k : Nat} (hk : k < rns.length) (hj : (k : Int) = a + 1) {R : List Int} (hr : rns.getD k r0 = ⟨2, 0, R, false⟩) (hR : R.length = 8) (hA : FA n b z0 0 (R.getD 0 0) (R.getD 1 0) (R.getD 2 0)) (hc : can (psys n a q b) (pst rns h0 h1 h2 z0 z1 g cells evs) k = true) : Nxt n a q b (pst rns h0 h1 h2 z0 z1 g cells evs) k := by
  have y1 := hy.n0
  have y2 := hy.a0
  have y3 := hy.b0
  have hlb := h.lenb y2.1
  have hgb := h.g0
  have hz0r := h.z0r
  have hz1r := h.z1r
  have hs0 := h.s0n
  have hs1 := h.s1n
  have hi : ins (psys n a q b) (pst rns h0 h1 h2 z0 z1 g cells evs) k = ⟨1, 0, 0, 0⟩ := by unfold ins rn pst; dsimp only; rw [hr]; rfl
  have hr1 : rn (pst rns h0 h1 h2 z0 z1 g cells evs) k = ⟨2, 0, R, false⟩ := hr
  have hr2 : rns.getD k r0 = ⟨2, 0, R, false⟩ := hr
  have hst := step1 (t := pst rns h0 h1 h2 z0 z1 g cells evs) hk hr1 hi
  refine ⟨hst.1, rns.set k ⟨2, 1, R.set 0 0, false⟩, h0, h1, h2, z0, z1, g, cells, hst.2.trans rfl, ?_⟩
  refine h.move hk hr2 (Loc.mkF y2.1 hj ⟨1, R.set 0 0, rfl, by simp [hR], by have hB := hA; simp [-List.getD_eq_getElem?_getD, FA, getD_set, hR] at hB ⊢ <;> omega⟩) (fun j hj hne hL => hL) (by omega) (by omega) (by omega) (by omega) ?_ ?_ ?_ h.cl ?_
  · (have hB := hA; simp [-List.getD_eq_getElem?_getD, w, wC, wW, wF, wK, tok, tF, gc, lenC, getD_set, hR, FA] at hB ⊢ <;> omega)
  · (have hB := hA; simp [-List.getD_eq_getElem?_getD, w, wC, wW, wF, wK, tok, tF, gc, lenC, getD_set, hR, FA] at hB ⊢ <;> omega)
  · (have hB := hA; simp [-List.getD_eq_getElem?_getD, w, wC, wW, wF, wK, tok, tF, gc, lenC, getD_set, hR, FA] at hB ⊢ <;> omega)
  · (intro hk0; first | omega | (have hB := hA; simp [-List.getD_eq_getElem?_getD, w, wC, wW, wF, wK, tok, tF, gc, lenC, getD_set, hR, FA] at hB ⊢ <;> omega))
theorem goF1 {n a q b : Int} (hy : Hy n a q b) {rns : List Rn} {h0 h1 h2 : List Int} {z0 z1 g : Int} {cells : List Int} {evs : List Ev} (h : IV n a b rns h0 h1 h2 z0 z1 g cells evs.length) {k : Nat} (hk : k < rns.length) (hj : (k : Int) = a + 1) {R : List Int} (hr : rns.getD k r0 = ⟨2, 1, R, false⟩) (hR : R.length = 8) (hA : FA n b z0 1 (R.getD 0 0) (R.getD 1 0) (R.getD 2 0)) (hc : can (psys n a q b) (pst rns h0 h1 h2 z0 z1 g cells evs) k = true) : Nxt n a q b (pst rns h0 h1 h2 z0 z1 g cells evs) k := by
  have y1 := hy.n0
  have y2 := hy.a0
  have y3 := hy.b0
  have hlb := h.lenb y2.1
  have hgb := h.g0
  have hz0r := h.z0r
  have hz1r := h.z1r
  have hs0 := h.s0n
  have hs1 := h.s1n
  have hi : ins (psys n a q b) (pst rns h0 h1 h2 z0 z1 g cells evs) k = ⟨1, 1, b, 0⟩ := by unfold ins rn pst; dsimp only; rw [hr]; rfl
  have hr1 : rn (pst rns h0 h1 h2 z0 z1 g cells evs) k = ⟨2, 1, R, false⟩ := hr
  have hr2 : rns.getD k r0 = ⟨2, 1, R, false⟩ := hr
  have hst := step1 (t := pst rns h0 h1 h2 z0 z1 g cells evs) hk hr1 hi
  refine ⟨hst.1, rns.set k ⟨2, 2, R.set 1 b, false⟩, h0, h1, h2, z0, z1, g, cells, hst.2.trans rfl, ?_⟩
  refine h.move hk hr2 (Loc.mkF y2.1 hj ⟨2, R.set 1 b, rfl, by simp [hR], by have hB := hA; simp [-List.getD_eq_getElem?_getD, FA, getD_set, hR] at hB ⊢ <;> omega⟩) (fun j hj hne hL => hL) (by omega) (by omega) (by omega) (by omega) ?_ ?_ ?_ h.cl ?_
  · (have hB := hA; simp [-List.getD_eq_getElem?_getD, w, wC, wW, wF, wK, tok, tF, gc, lenC, getD_set, hR, FA] at hB ⊢ <;> omega)
  · (have hB := hA; simp [-List.getD_eq_getElem?_getD, w, wC, wW, wF, wK, tok, tF, gc, lenC, getD_set, hR, FA] at hB ⊢ <;> omega)
  · (have hB := hA; simp [-List.getD_eq_getElem?_getD, w, wC, wW, wF, wK, tok, tF, gc, lenC, getD_set, hR, FA] at hB ⊢ <;> omega)
  · (intro hk0; first | omega | (have hB := hA; simp [-List.getD_eq_getElem?_getD, w, wC, wW, wF, wK, tok, tF, gc, lenC, getD_set, hR, FA] at hB ⊢ <;> omega))
theorem goF2 {n a q b : Int} (hy : Hy n a q b) {rns : List Rn} {h0 h1 h2 : List Int} {z0 z1 g : Int} {cells : List Int} {evs : List Ev} (h : IV n a b rns h0 h1 h2 z0 z1 g cells evs.length) {k : Nat} (hk : k < rns.length) (hj : (k : Int) = a + 1) {R : List Int} (hr : rns.getD k r0 = ⟨2, 2, R, false⟩) (hR : R.length = 8) (hA : FA n b z0 2 (R.getD 0 0) (R.getD 1 0) (R.getD 2 0)) (hc : can (psys n a q b) (pst rns h0 h1 h2 z0 z1 g cells evs) k = true) : Nxt n a q b (pst rns h0 h1 h2 z0 z1 g cells evs) k := by
  have y1 := hy.n0
  have y2 := hy.a0
  have y3 := hy.b0
  have hlb := h.lenb y2.1
  have hgb := h.g0
  have hz0r := h.z0r
  have hz1r := h.z1r
  have hs0 := h.s0n
  have hs1 := h.s1n
  have hi : ins (psys n a q b) (pst rns h0 h1 h2 z0 z1 g cells evs) k = ⟨1, 2, 1, 0⟩ := by unfold ins rn pst; dsimp only; rw [hr]; rfl
  have hr1 : rn (pst rns h0 h1 h2 z0 z1 g cells evs) k = ⟨2, 2, R, false⟩ := hr
  have hr2 : rns.getD k r0 = ⟨2, 2, R, false⟩ := hr
  have hst := step1 (t := pst rns h0 h1 h2 z0 z1 g cells evs) hk hr1 hi
  refine ⟨hst.1, rns.set k ⟨2, 3, R.set 2 1, false⟩, h0, h1, h2, z0, z1, g, cells, hst.2.trans rfl, ?_⟩
  refine h.move hk hr2 (Loc.mkF y2.1 hj ⟨3, R.set 2 1, rfl, by simp [hR], by have hB := hA; simp [-List.getD_eq_getElem?_getD, FA, getD_set, hR] at hB ⊢ <;> omega⟩) (fun j hj hne hL => hL) (by omega) (by omega) (by omega) (by omega) ?_ ?_ ?_ h.cl ?_
  · (have hB := hA; simp [-List.getD_eq_getElem?_getD, w, wC, wW, wF, wK, tok, tF, gc, lenC, getD_set, hR, FA] at hB ⊢ <;> omega)
  · (have hB := hA; simp [-List.getD_eq_getElem?_getD, w, wC, wW, wF, wK, tok, tF, gc, lenC, getD_set, hR, FA] at hB ⊢ <;> omega)
  · (have hB := hA; simp [-List.getD_eq_getElem?_getD, w, wC, wW, wF, wK, tok, tF, gc, lenC, getD_set, hR, FA] at hB ⊢ <;> omega)
  · (intro hk0; first | omega | (have hB := hA; simp [-List.getD_eq_getElem?_getD, w, wC, wW, wF, wK, tok, tF, gc, lenC, getD_set, hR, FA] at hB ⊢ <;> omega))
theorem goF3 {n a q b : Int} (hy : Hy n a q b) {rns : List Rn} {h0 h1 h2 : List Int} {z0 z1 g : Int} {cells : List Int} {evs : List Ev} (h : IV n a b rns h0 h1 h2 z0 z1 g cells evs.length) {k : Nat} (hk : k < rns.length) (hj : (k : Int) = a + 1) {R : List Int} (hr : rns.getD k r0 = ⟨2, 3, R, false⟩) (hR : R.length = 8) (hA : FA n b z0 3 (R.getD 0 0) (R.getD 1 0) (R.getD 2 0)) (hc : can (psys n a q b) (pst rns h0 h1 h2 z0 z1 g cells evs) k = true) : Nxt n a q b (pst rns h0 h1 h2 z0 z1 g cells evs) k := by
  have y1 := hy.n0
  have y2 := hy.a0
  have y3 := hy.b0
  have hlb := h.lenb y2.1
  have hgb := h.g0
  have hz0r := h.z0r
  have hz1r := h.z1r
  have hs0 := h.s0n
  have hs1 := h.s1n
  have hi : ins (psys n a q b) (pst rns h0 h1 h2 z0 z1 g cells evs) k = ⟨3, 0, 1, 5⟩ := by unfold ins rn pst; dsimp only; rw [hr]; rfl
  have hr1 : rn (pst rns h0 h1 h2 z0 z1 g cells evs) k = ⟨2, 3, R, false⟩ := hr
  have hr2 : rns.getD k r0 = ⟨2, 3, R, false⟩ := hr
  by_cases hlt : R.getD 0 0 < R.getD 1 0
  · have hst := step3y (t := pst rns h0 h1 h2 z0 z1 g cells evs) hk hr1 hi hlt
    refine ⟨hst.1, rns.set k ⟨2, 5, R, false⟩, h0, h1, h2, z0, z1, g, cells, hst.2.trans rfl, ?_⟩
    refine h.move hk hr2 (Loc.mkF y2.1 hj ⟨5, R, rfl, by simp [hR], by have hB := hA; simp [-List.getD_eq_getElem?_getD, FA, getD_set, hR] at hB ⊢ <;> omega⟩) (fun j hj hne hL => hL) (by omega) (by omega) (by omega) (by omega) ?_ ?_ ?_ h.cl ?_
    · (have hB := hA; simp [-List.getD_eq_getElem?_getD, w, wC, wW, wF, wK, tok, tF, gc, lenC, getD_set, hR, FA] at hB ⊢ <;> omega)
    · (have hB := hA; simp [-List.getD_eq_getElem?_getD, w, wC, wW, wF, wK, tok, tF, gc, lenC, getD_set, hR, FA] at hB ⊢ <;> omega)
    · (have hB := hA; simp [-List.getD_eq_getElem?_getD, w, wC, wW, wF, wK, tok, tF, gc, lenC, getD_set, hR, FA] at hB ⊢ <;> omega)
    · (intro hk0; first | omega | (have hB := hA; simp [-List.getD_eq_getElem?_getD, w, wC, wW, wF, wK, tok, tF, gc, lenC, getD_set, hR, FA] at hB ⊢ <;> omega))
  · have hst := step3n (t := pst rns h0 h1 h2 z0 z1 g cells evs) hk hr1 hi hlt
    refine ⟨hst.1, rns.set k ⟨2, 4, R, false⟩, h0, h1, h2, z0, z1, g, cells, hst.2.trans rfl, ?_⟩
    refine h.move hk hr2 (Loc.mkF y2.1 hj ⟨4, R, rfl, by simp [hR], by have hB := hA; simp [-List.getD_eq_getElem?_getD, FA, getD_set, hR] at hB ⊢ <;> omega⟩) (fun j hj hne hL => hL) (by omega) (by omega) (by omega) (by omega) ?_ ?_ ?_ h.cl ?_
    · (have hB := hA; simp [-List.getD_eq_getElem?_getD, w, wC, wW, wF, wK, tok, tF, gc, lenC, getD_set, hR, FA] at hB ⊢ <;> omega)
    · (have hB := hA; simp [-List.getD_eq_getElem?_getD, w, wC, wW, wF, wK, tok, tF, gc, lenC, getD_set, hR, FA] at hB ⊢ <;> omega)
    · (have hB := hA; simp [-List.getD_eq_getElem?_getD, w, wC, wW, wF, wK, tok, tF, gc, lenC, getD_set, hR, FA] at hB ⊢ <;> omega)
    · (intro hk0; first | omega | (have hB := hA; simp [-List.getD_eq_getElem?_getD, w, wC, wW, wF, wK, tok, tF, gc, lenC, getD_set, hR, FA] at hB ⊢ <;> omega))
theorem goF4 {n a q b : Int} (hy : Hy n a q b) {rns : List Rn} {h0 h1 h2 : List Int} {z0 z1 g : Int} {cells : List Int} {evs : List Ev} (h : IV n a b rns h0 h1 h2 z0 z1 g cells evs.length) {k : Nat} (hk : k < rns.length) (hj : (k : Int) = a + 1) {R : List Int} (hr : rns.getD k r0 = ⟨2, 4, R, false⟩) (hR : R.length = 8) (hA : FA n b z0 4 (R.getD 0 0) (R.getD 1 0) (R.getD 2 0)) (hc : can (psys n a q b) (pst rns h0 h1 h2 z0 z1 g cells evs) k = true) : Nxt n a q b (pst rns h0 h1 h2 z0 z1 g cells evs) k := by
  have y1 := hy.n0
  have y2 := hy.a0
  have y3 := hy.b0
  have hlb := h.lenb y2.1
  have hgb := h.g0
  have hz0r := h.z0r
  have hz1r := h.z1r
  have hs0 := h.s0n
  have hs1 := h.s1n
  have hi : ins (psys n a q b) (pst rns h0 h1 h2 z0 z1 g cells evs) k = ⟨4, 0, 0, 8⟩ := by unfold ins rn pst; dsimp only; rw [hr]; rfl
  have hr1 : rn (pst rns h0 h1 h2 z0 z1 g cells evs) k = ⟨2, 4, R, false⟩ := hr
  have hr2 : rns.getD k r0 = ⟨2, 4, R, false⟩ := hr
  have hst := step4 (t := pst rns h0 h1 h2 z0 z1 g cells evs) hk hr1 hi
  refine ⟨hst.1, rns.set k ⟨2, 8, R, false⟩, h0, h1, h2, z0, z1, g, cells, hst.2.trans rfl, ?_⟩
  refine h.move hk hr2 (Loc.mkF y2.1 hj ⟨8, R, rfl, by simp [hR], by have hB := hA; simp [-List.getD_eq_getElem?_getD, FA, getD_set, hR] at hB ⊢ <;> omega⟩) (fun j hj hne hL => hL) (by omega) (by omega) (by omega) (by omega) ?_ ?_ ?_ h.cl ?_
  · (have hB := hA; simp [-List.getD_eq_getElem?_getD, w, wC, wW, wF, wK, tok, tF, gc, lenC, getD_set, hR, FA] at hB ⊢ <;> omega)
  · (have hB := hA; simp [-List.getD_eq_getElem?_getD, w, wC, wW, wF, wK, tok, tF, gc, lenC, getD_set, hR, FA] at hB ⊢ <;> omega)
  · (have hB := hA; simp [-List.getD_eq_getElem?_getD, w, wC, wW, wF, wK, tok, tF, gc, lenC, getD_set, hR, FA] at hB ⊢ <;> omega)
  · (intro hk0; first | omega | (have hB := hA; simp [-List.getD_eq_getElem?_getD, w, wC, wW, wF, wK, tok, tF, gc, lenC, getD_set, hR, FA] at hB ⊢ <;> omega))
theorem goF5 {n a q b : Int} (hy : Hy n a q b) {rns : List Rn} {h0 h1 h2 : List Int} {z0 z1 g : Int} {cells : List Int} {evs : List Ev} (h : IV n a b rns h0 h1 h2 z0 z1 g cells evs.length) {k : Nat} (hk : k < rns.length) (hj : (k : Int) = a + 1) {R : List Int} (hr : rns.getD k r0 = ⟨2, 5, R, false⟩) (hR : R.length = 8) (hA : FA n b z0 5 (R.getD 0 0) (R.getD 1 0) (R.getD 2 0)) (hc : can (psys n a q b) (pst rns h0 h1 h2 z0 z1 g cells evs) k = true) : Nxt n a q b (pst rns h0 h1 h2 z0 z1 g cells evs) k := by
  have y1 := hy.n0
  have y2 := hy.a0
  have y3 := hy.b0
  have hlb := h.lenb y2.1
  have hgb := h.g0
  have hz0r := h.z0r
  have hz1r := h.z1r
  have hs0 := h.s0n
  have hs1 := h.s1n
  have hi : ins (psys n a q b) (pst rns h0 h1 h2 z0 z1 g cells evs) k = ⟨5, 2, 0, 0⟩ := by unfold ins rn pst; dsimp only; rw [hr]; rfl
  have hr1 : rn (pst rns h0 h1 h2 z0 z1 g cells evs) k = ⟨2, 5, R, false⟩ := hr
  have hr2 : rns.getD k r0 = ⟨2, 5, R, false⟩ := hr
  have hln : ((h2 ++ [R.getD 0 0]).length : Int) = h2.length + 1 := by simp
  have hst := step5 (t := pst rns h0 h1 h2 z0 z1 g cells evs) hk hr1 hi rfl
  refine ⟨hst.1, rns.set k ⟨2, 6, R, false⟩, h0, h1, (h2 ++ [R.getD 0 0]), z0, z1, g, cells, hst.2.trans rfl, ?_⟩
  refine h.move hk hr2 (Loc.mkF y2.1 hj ⟨6, R, rfl, by simp [hR], by have hB := hA; simp [-List.getD_eq_getElem?_getD, FA, getD_set, hR] at hB ⊢ <;> omega⟩) (fun j hj hne hL => hL.mono (fun _ _ _ => by first | omega | simp_all) (fun _ _ _ _ => by first | omega | simp_all) (fun _ => by first | rfl | omega) (fun _ => by first | exact ⟨rfl, id⟩ | omega)) (by omega) (by omega) (by omega) (by omega) ?_ ?_ ?_ h.cl ?_
  · (have hB := hA; simp [-List.getD_eq_getElem?_getD, w, wC, wW, wF, wK, tok, tF, gc, lenC, getD_set, hR, FA] at hB ⊢ <;> omega)
  · (have hB := hA; simp [-List.getD_eq_getElem?_getD, w, wC, wW, wF, wK, tok, tF, gc, lenC, getD_set, hR, FA] at hB ⊢ <;> omega)
  · (have hB := hA; simp [-List.getD_eq_getElem?_getD, w, wC, wW, wF, wK, tok, tF, gc, lenC, getD_set, hR, FA] at hB ⊢ <;> omega)
  · (intro hk0; first | omega | (have hB := hA; simp [-List.getD_eq_getElem?_getD, w, wC, wW, wF, wK, tok, tF, gc, lenC, getD_set, hR, FA] at hB ⊢ <;> omega))
theorem goF6 {n a q b : Int} (hy : Hy n a q b) {rns : List Rn} {h0 h1 h2 : List Int} {z0 z1 g : Int} {cells : List Int} {evs : List Ev} (h : IV n a b rns h0 h1 h2 z0 z1 g cells evs.length) {k : Nat} (hk : k < rns.length) (hj : (k : Int) = a + 1) {R : List Int} (hr : rns.getD k r0 = ⟨2, 6, R, false⟩) (hR : R.length = 8) (hA : FA n b z0 6 (R.getD 0 0) (R.getD 1 0) (R.getD 2 0)) (hc : can (psys n a q b) (pst rns h0 h1 h2 z0 z1 g cells evs) k = true) : Nxt n a q b (pst rns h0 h1 h2 z0 z1 g cells evs) k := by
  have y1 := hy.n0
  have y2 := hy.a0
  have y3 := hy.b0
  have hlb := h.lenb y2.1
  have hgb := h.g0
  have hz0r := h.z0r
  have hz1r := h.z1r
  have hs0 := h.s0n
  have hs1 := h.s1n
  have hi : ins (psys n a q b) (pst rns h0 h1 h2 z0 z1 g cells evs) k = ⟨2, 0, 2, 0⟩ := by unfold ins rn pst; dsimp only; rw [hr]; rfl
  have hr1 : rn (pst rns h0 h1 h2 z0 z1 g cells evs) k = ⟨2, 6, R, false⟩ := hr
  have hr2 : rns.getD k r0 = ⟨2, 6, R, false⟩ := hr
  have hB := hA
  simp [-List.getD_eq_getElem?_getD, FA] at hB
  have hw : IntKind.i64.wrap (R.getD 0 0 + R.getD 2 0) = R.getD 0 0 + 1 := by rw [wrap_id (by omega)]; omega
  have hst := step2 (t := pst rns h0 h1 h2 z0 z1 g cells evs) hk hr1 hi
  rw [show ((0 : Int).toNat) = 0 from rfl, show ((2 : Int).toNat) = 2 from rfl, hw] at hst
  clear hB
  have hst := hst
  refine ⟨hst.1, rns.set k ⟨2, 7, R.set 0 (R.getD 0 0 + 1), false⟩, h0, h1, h2, z0, z1, g, cells, hst.2.trans rfl, ?_⟩
  refine h.move hk hr2 (Loc.mkF y2.1 hj ⟨7, R.set 0 (R.getD 0 0 + 1), rfl, by simp [hR], by have hB := hA; simp [-List.getD_eq_getElem?_getD, FA, getD_set, hR] at hB ⊢ <;> omega⟩) (fun j hj hne hL => hL) (by omega) (by omega) (by omega) (by omega) ?_ ?_ ?_ h.cl ?_
  · (have hB := hA; simp [-List.getD_eq_getElem?_getD, w, wC, wW, wF, wK, tok, tF, gc, lenC, getD_set, hR, FA] at hB ⊢ <;> omega)
  · (have hB := hA; simp [-List.getD_eq_getElem?_getD, w, wC, wW, wF, wK, tok, tF, gc, lenC, getD_set, hR, FA] at hB ⊢ <;> omega)
  · (have hB := hA; simp [-List.getD_eq_getElem?_getD, w, wC, wW, wF, wK, tok, tF, gc, lenC, getD_set, hR, FA] at hB ⊢ <;> omega)
  · (intro hk0; first | omega | (have hB := hA; simp [-List.getD_eq_getElem?_getD, w, wC, wW, wF, wK, tok, tF, gc, lenC, getD_set, hR, FA] at hB ⊢ <;> omega))
theorem goF7 {n a q b : Int} (hy : Hy n a q b) {rns : List Rn} {h0 h1 h2 : List Int} {z0 z1 g : Int} {cells : List Int} {evs : List Ev} (h : IV n a b rns h0 h1 h2 z0 z1 g cells evs.length) {k : Nat} (hk : k < rns.length) (hj : (k : Int) = a + 1) {R : List Int} (hr : rns.getD k r0 = ⟨2, 7, R, false⟩) (hR : R.length = 8) (hA : FA n b z0 7 (R.getD 0 0) (R.getD 1 0) (R.getD 2 0)) (hc : can (psys n a q b) (pst rns h0 h1 h2 z0 z1 g cells evs) k = true) : Nxt n a q b (pst rns h0 h1 h2 z0 z1 g cells evs) k := by
  have y1 := hy.n0
  have y2 := hy.a0
  have y3 := hy.b0
  have hlb := h.lenb y2.1
  have hgb := h.g0
  have hz0r := h.z0r
  have hz1r := h.z1r
  have hs0 := h.s0n
  have hs1 := h.s1n
  have hi : ins (psys n a q b) (pst rns h0 h1 h2 z0 z1 g cells evs) k = ⟨4, 0, 0, 3⟩ := by unfold ins rn pst; dsimp only; rw [hr]; rfl
  have hr1 : rn (pst rns h0 h1 h2 z0 z1 g cells evs) k = ⟨2, 7, R, false⟩ := hr
  have hr2 : rns.getD k r0 = ⟨2, 7, R, false⟩ := hr
  have hst := step4 (t := pst rns h0 h1 h2 z0 z1 g cells evs) hk hr1 hi
  refine ⟨hst.1, rns.set k ⟨2, 3, R, false⟩, h0, h1, h2, z0, z1, g, cells, hst.2.trans rfl, ?_⟩
  refine h.move hk hr2 (Loc.mkF y2.1 hj ⟨3, R, rfl, by simp [hR], by have hB := hA; simp [-List.getD_eq_getElem?_getD, FA, getD_set, hR] at hB ⊢ <;> omega⟩) (fun j hj hne hL => hL) (by omega) (by omega) (by omega) (by omega) ?_ ?_ ?_ h.cl ?_
  · (have hB := hA; simp [-List.getD_eq_getElem?_getD, w, wC, wW, wF, wK, tok, tF, gc, lenC, getD_set, hR, FA] at hB ⊢ <;> omega)
  · (have hB := hA; simp [-List.getD_eq_getElem?_getD, w, wC, wW, wF, wK, tok, tF, gc, lenC, getD_set, hR, FA] at hB ⊢ <;> omega)
  · (have hB := hA; simp [-List.getD_eq_getElem?_getD, w, wC, wW, wF, wK, tok, tF, gc, lenC, getD_set, hR, FA] at hB ⊢ <;> omega)
  · (intro hk0; first | omega | (have hB := hA; simp [-List.getD_eq_getElem?_getD, w, wC, wW, wF, wK, tok, tF, gc, lenC, getD_set, hR, FA] at hB ⊢ <;> omega))
theorem goF8 {n a q b : Int} (hy : Hy n a q b) {rns : List Rn} {h0 h1 h2 : List Int} {z0 z1 g : Int} {cells : List Int} {evs : List Ev} (h : IV n a b rns h0 h1 h2 z0 z1 g cells evs.length) {k : Nat} (hk : k < rns.length) (hj : (k : Int) = a + 1) {R : List Int} (hr : rns.getD k r0 = ⟨2, 8, R, false⟩) (hR : R.length = 8) (hA : FA n b z0 8 (R.getD 0 0) (R.getD 1 0) (R.getD 2 0)) (hc : can (psys n a q b) (pst rns h0 h1 h2 z0 z1 g cells evs) k = true) : Nxt n a q b (pst rns h0 h1 h2 z0 z1 g cells evs) k := by
  have y1 := hy.n0
  have y2 := hy.a0
  have y3 := hy.b0
  have hlb := h.lenb y2.1
  have hgb := h.g0
  have hz0r := h.z0r
  have hz1r := h.z1r
  have hs0 := h.s0n
  have hs1 := h.s1n
  have hi : ins (psys n a q b) (pst rns h0 h1 h2 z0 z1 g cells evs) k = ⟨1, 0, 0, 0⟩ := by unfold ins rn pst; dsimp only; rw [hr]; rfl
  have hr1 : rn (pst rns h0 h1 h2 z0 z1 g cells evs) k = ⟨2, 8, R, false⟩ := hr
  have hr2 : rns.getD k r0 = ⟨2, 8, R, false⟩ := hr
  have hst := step1 (t := pst rns h0 h1 h2 z0 z1 g cells evs) hk hr1 hi
  refine ⟨hst.1, rns.set k ⟨2, 9, R.set 0 0, false⟩, h0, h1, h2, z0, z1, g, cells, hst.2.trans rfl, ?_⟩
  refine h.move hk hr2 (Loc.mkF y2.1 hj ⟨9, R.set 0 0, rfl, by simp [hR], by have hB := hA; simp [-List.getD_eq_getElem?_getD, FA, getD_set, hR] at hB ⊢ <;> omega⟩) (fun j hj hne hL => hL) (by omega) (by omega) (by omega) (by omega) ?_ ?_ ?_ h.cl ?_
  · (have hB := hA; simp [-List.getD_eq_getElem?_getD, w, wC, wW, wF, wK, tok, tF, gc, lenC, getD_set, hR, FA] at hB ⊢ <;> omega)
  · (have hB := hA; simp [-List.getD_eq_getElem?_getD, w, wC, wW, wF, wK, tok, tF, gc, lenC, getD_set, hR, FA] at hB ⊢ <;> omega)
  · (have hB := hA; simp [-List.getD_eq_getElem?_getD, w, wC, wW, wF, wK, tok, tF, gc, lenC, getD_set, hR, FA] at hB ⊢ <;> omega)
  · (intro hk0; first | omega | (have hB := hA; simp [-List.getD_eq_getElem?_getD, w, wC, wW, wF, wK, tok, tF, gc, lenC, getD_set, hR, FA] at hB ⊢ <;> omega))
theorem goF9 {n a q b : Int} (hy : Hy n a q b) {rns : List Rn} {h0 h1 h2 : List Int} {z0 z1 g : Int} {cells : List Int} {evs : List Ev} (h : IV n a b rns h0 h1 h2 z0 z1 g cells evs.length) {k : Nat} (hk : k < rns.length) (hj : (k : Int) = a + 1) {R : List Int} (hr : rns.getD k r0 = ⟨2, 9, R, false⟩) (hR : R.length = 8) (hA : FA n b z0 9 (R.getD 0 0) (R.getD 1 0) (R.getD 2 0)) (hc : can (psys n a q b) (pst rns h0 h1 h2 z0 z1 g cells evs) k = true) : Nxt n a q b (pst rns h0 h1 h2 z0 z1 g cells evs) k := by
  have y1 := hy.n0
  have y2 := hy.a0
  have y3 := hy.b0
  have hlb := h.lenb y2.1
  have hgb := h.g0
  have hz0r := h.z0r
  have hz1r := h.z1r
  have hs0 := h.s0n
  have hs1 := h.s1n
  have hi : ins (psys n a q b) (pst rns h0 h1 h2 z0 z1 g cells evs) k = ⟨1, 1, n, 0⟩ := by unfold ins rn pst; dsimp only; rw [hr]; rfl
  have hr1 : rn (pst rns h0 h1 h2 z0 z1 g cells evs) k = ⟨2, 9, R, false⟩ := hr
  have hr2 : rns.getD k r0 = ⟨2, 9, R, false⟩ := hr
  have hst := step1 (t := pst rns h0 h1 h2 z0 z1 g cells evs) hk hr1 hi
  refine ⟨hst.1, rns.set k ⟨2, 10, R.set 1 n, false⟩, h0, h1, h2, z0, z1, g, cells, hst.2.trans rfl, ?_⟩
  refine h.move hk hr2 (Loc.mkF y2.1 hj ⟨10, R.set 1 n, rfl, by simp [hR], by have hB := hA; simp [-List.getD_eq_getElem?_getD, FA, getD_set, hR] at hB ⊢ <;> omega⟩) (fun j hj hne hL => hL) (by omega) (by omega) (by omega) (by omega) ?_ ?_ ?_ h.cl ?_
  · (have hB := hA; simp [-List.getD_eq_getElem?_getD, w, wC, wW, wF, wK, tok, tF, gc, lenC, getD_set, hR, FA] at hB ⊢ <;> omega)
  · (have hB := hA; simp [-List.getD_eq_getElem?_getD, w, wC, wW, wF, wK, tok, tF, gc, lenC, getD_set, hR, FA] at hB ⊢ <;> omega)
  · (have hB := hA; simp [-List.getD_eq_getElem?_getD, w, wC, wW, wF, wK, tok, tF, gc, lenC, getD_set, hR, FA] at hB ⊢ <;> omega)
  · (intro hk0; first | omega | (have hB := hA; simp [-List.getD_eq_getElem?_getD, w, wC, wW, wF, wK, tok, tF, gc, lenC, getD_set, hR, FA] at hB ⊢ <;> omega))
theorem goF10 {n a q b : Int} (hy : Hy n a q b) {rns : List Rn} {h0 h1 h2 : List Int} {z0 z1 g : Int} {cells : List Int} {evs : List Ev} (h : IV n a b rns h0 h1 h2 z0 z1 g cells evs.length) {k : Nat} (hk : k < rns.length) (hj : (k : Int) = a + 1) {R : List Int} (hr : rns.getD k r0 = ⟨2, 10, R, false⟩) (hR : R.length = 8) (hA : FA n b z0 10 (R.getD 0 0) (R.getD 1 0) (R.getD 2 0)) (hc : can (psys n a q b) (pst rns h0 h1 h2 z0 z1 g cells evs) k = true) : Nxt n a q b (pst rns h0 h1 h2 z0 z1 g cells evs) k := by
  have y1 := hy.n0
  have y2 := hy.a0
  have y3 := hy.b0
  have hlb := h.lenb y2.1
  have hgb := h.g0
  have hz0r := h.z0r
  have hz1r := h.z1r
  have hs0 := h.s0n
  have hs1 := h.s1n
  have hi : ins (psys n a q b) (pst rns h0 h1 h2 z0 z1 g cells evs) k = ⟨3, 0, 1, 12⟩ := by unfold ins rn pst; dsimp only; rw [hr]; rfl
  have hr1 : rn (pst rns h0 h1 h2 z0 z1 g cells evs) k = ⟨2, 10, R, false⟩ := hr
  have hr2 : rns.getD k r0 = ⟨2, 10, R, false⟩ := hr
  by_cases hlt : R.getD 0 0 < R.getD 1 0
  · have hst := step3y (t := pst rns h0 h1 h2 z0 z1 g cells evs) hk hr1 hi hlt
    refine ⟨hst.1, rns.set k ⟨2, 12, R, false⟩, h0, h1, h2, z0, z1, g, cells, hst.2.trans rfl, ?_⟩
    refine h.move hk hr2 (Loc.mkF y2.1 hj ⟨12, R, rfl, by simp [hR], by have hB := hA; simp [-List.getD_eq_getElem?_getD, FA, getD_set, hR] at hB ⊢ <;> omega⟩) (fun j hj hne hL => hL) (by omega) (by omega) (by omega) (by omega) ?_ ?_ ?_ h.cl ?_
    · (have hB := hA; simp [-List.getD_eq_getElem?_getD, w, wC, wW, wF, wK, tok, tF, gc, lenC, getD_set, hR, FA] at hB ⊢ <;> omega)
    · (have hB := hA; simp [-List.getD_eq_getElem?_getD, w, wC, wW, wF, wK, tok, tF, gc, lenC, getD_set, hR, FA] at hB ⊢ <;> omega)
    · (have hB := hA; simp [-List.getD_eq_getElem?_getD, w, wC, wW, wF, wK, tok, tF, gc, lenC, getD_set, hR, FA] at hB ⊢ <;> omega)
    · (intro hk0; first | omega | (have hB := hA; simp [-List.getD_eq_getElem?_getD, w, wC, wW, wF, wK, tok, tF, gc, lenC, getD_set, hR, FA] at hB ⊢ <;> omega))
  · have hst := step3n (t := pst rns h0 h1 h2 z0 z1 g cells evs) hk hr1 hi hlt
    refine ⟨hst.1, rns.set k ⟨2, 11, R, false⟩, h0, h1, h2, z0, z1, g, cells, hst.2.trans rfl, ?_⟩
    refine h.move hk hr2 (Loc.mkF y2.1 hj ⟨11, R, rfl, by simp [hR], by have hB := hA; simp [-List.getD_eq_getElem?_getD, FA, getD_set, hR] at hB ⊢ <;> omega⟩) (fun j hj hne hL => hL) (by omega) (by omega) (by omega) (by omega) ?_ ?_ ?_ h.cl ?_
    · (have hB := hA; simp [-List.getD_eq_getElem?_getD, w, wC, wW, wF, wK, tok, tF, gc, lenC, getD_set, hR, FA] at hB ⊢ <;> omega)
    · (have hB := hA; simp [-List.getD_eq_getElem?_getD, w, wC, wW, wF, wK, tok, tF, gc, lenC, getD_set, hR, FA] at hB ⊢ <;> omega)
    · (have hB := hA; simp [-List.getD_eq_getElem?_getD, w, wC, wW, wF, wK, tok, tF, gc, lenC, getD_set, hR, FA] at hB ⊢ <;> omega)
    · (intro hk0; first | omega | (have hB := hA; simp [-List.getD_eq_getElem?_getD, w, wC, wW, wF, wK, tok, tF, gc, lenC, getD_set, hR, FA] at hB ⊢ <;> omega))
theorem goF11 {n a q b : Int} (hy : Hy n a q b) {rns : List Rn} {h0 h1 h2 : List Int} {z0 z1 g : Int} {cells : List Int} {evs : List Ev} (h : IV n a b rns h0 h1 h2 z0 z1 g cells evs.length) {k : Nat} (hk : k < rns.length) (hj : (k : Int) = a + 1) {R : List Int} (hr : rns.getD k r0 = ⟨2, 11, R, false⟩) (hR : R.length = 8) (hA : FA n b z0 11 (R.getD 0 0) (R.getD 1 0) (R.getD 2 0)) (hc : can (psys n a q b) (pst rns h0 h1 h2 z0 z1 g cells evs) k = true) : Nxt n a q b (pst rns h0 h1 h2 z0 z1 g cells evs) k := by
  have y1 := hy.n0
  have y2 := hy.a0
  have y3 := hy.b0
  have hlb := h.lenb y2.1
  have hgb := h.g0
  have hz0r := h.z0r
  have hz1r := h.z1r
  have hs0 := h.s0n
  have hs1 := h.s1n
  have hi : ins (psys n a q b) (pst rns h0 h1 h2 z0 z1 g cells evs) k = ⟨4, 0, 0, 17⟩ := by unfold ins rn pst; dsimp only; rw [hr]; rfl
  have hr1 : rn (pst rns h0 h1 h2 z0 z1 g cells evs) k = ⟨2, 11, R, false⟩ := hr
  have hr2 : rns.getD k r0 = ⟨2, 11, R, false⟩ := hr
  have hst := step4 (t := pst rns h0 h1 h2 z0 z1 g cells evs) hk hr1 hi
  refine ⟨hst.1, rns.set k ⟨2, 17, R, false⟩, h0, h1, h2, z0, z1, g, cells, hst.2.trans rfl, ?_⟩
  refine h.move hk hr2 (Loc.mkF y2.1 hj ⟨17, R, rfl, by simp [hR], by have hB := hA; simp [-List.getD_eq_getElem?_getD, FA, getD_set, hR] at hB ⊢ <;> omega⟩) (fun j hj hne hL => hL) (by omega) (by omega) (by omega) (by omega) ?_ ?_ ?_ h.cl ?_
  · (have hB := hA; simp [-List.getD_eq_getElem?_getD, w, wC, wW, wF, wK, tok, tF, gc, lenC, getD_set, hR, FA] at hB ⊢ <;> omega)
  · (have hB := hA; simp [-List.getD_eq_getElem?_getD, w, wC, wW, wF, wK, tok, tF, gc, lenC, getD_set, hR, FA] at hB ⊢ <;> omega)
  · (have hB := hA; simp [-List.getD_eq_getElem?_getD, w, wC, wW, wF, wK, tok, tF, gc, lenC, getD_set, hR, FA] at hB ⊢ <;> omega)
  · (intro hk0; first | omega | (have hB := hA; simp [-List.getD_eq_getElem?_getD, w, wC, wW, wF, wK, tok, tF, gc, lenC, getD_set, hR, FA] at hB ⊢ <;> omega))
theorem goF12 {n a q b : Int} (hy : Hy n a q b) {rns : List Rn} {h0 h1 h2 : List Int} {z0 z1 g : Int} {cells : List Int} {evs : List Ev} (h : IV n a b rns h0 h1 h2 z0 z1 g cells evs.length) {k : Nat} (hk : k < rns.length) (hj : (k : Int) = a + 1) {R : List Int} (hr : rns.getD k r0 = ⟨2, 12, R, false⟩) (hR : R.length = 8) (hA : FA n b z0 12 (R.getD 0 0) (R.getD 1 0) (R.getD 2 0)) (hc : can (psys n a q b) (pst rns h0 h1 h2 z0 z1 g cells evs) k = true) : Nxt n a q b (pst rns h0 h1 h2 z0 z1 g cells evs) k := by
  have y1 := hy.n0
  have y2 := hy.a0
  have y3 := hy.b0
  have hlb := h.lenb y2.1
  have hgb := h.g0
  have hz0r := h.z0r
  have hz1r := h.z1r
  have hs0 := h.s0n
  have hs1 := h.s1n
  have hi : ins (psys n a q b) (pst rns h0 h1 h2 z0 z1 g cells evs) k = ⟨6, 2, 3, 17⟩ := by unfold ins rn pst; dsimp only; rw [hr]; rfl
  have hr1 : rn (pst rns h0 h1 h2 z0 z1 g cells evs) k = ⟨2, 12, R, false⟩ := hr
  have hr2 : rns.getD k r0 = ⟨2, 12, R, false⟩ := hr
  rcases hH : h2 with _ | ⟨x, xs⟩
  · rw [can6 (by rw [hr1]) hi] at hc
    subst hH
    simp [pst] at hc
  · subst hH
    have hln : ((x :: xs).length : Int) = xs.length + 1 := by simp
    have hst := step6 (t := pst rns h0 h1 (x :: xs) z0 z1 g cells evs) hk hr1 hi (x := x) (xs := xs) rfl
    refine ⟨hst.1, rns.set k ⟨2, 13, R.set 3 x, false⟩, h0, h1, xs, z0, z1, g, cells, hst.2.trans rfl, ?_⟩
    refine h.move hk hr2 (Loc.mkF y2.1 hj ⟨13, R.set 3 x, rfl, by simp [hR], by have hB := hA; simp [-List.getD_eq_getElem?_getD, FA, getD_set, hR] at hB ⊢ <;> omega⟩) (fun j hj hne hL => hL.mono (fun _ _ _ => by first | omega | simp_all) (fun _ _ _ _ => by first | omega | simp_all) (fun _ => by first | rfl | omega) (fun _ => by first | exact ⟨rfl, id⟩ | omega)) (by omega) (by omega) (by omega) (by omega) ?_ ?_ ?_ h.cl ?_
    · (have hB := hA; simp [-List.getD_eq_getElem?_getD, w, wC, wW, wF, wK, tok, tF, gc, lenC, getD_set, hR, FA] at hB ⊢ <;> omega)
    · (have hB := hA; simp [-List.getD_eq_getElem?_getD, w, wC, wW, wF, wK, tok, tF, gc, lenC, getD_set, hR, FA] at hB ⊢ <;> omega)
    · (have hB := hA; simp [-List.getD_eq_getElem?_getD, w, wC, wW, wF, wK, tok, tF, gc, lenC, getD_set, hR, FA] at hB ⊢ <;> omega)
    · (intro hk0; first | omega | (have hB := hA; simp [-List.getD_eq_getElem?_getD, w, wC, wW, wF, wK, tok, tF, gc, lenC, getD_set, hR, FA] at hB ⊢ <;> omega))
theorem goF13 {n a q b : Int} (hy : Hy n a q b) {rns : List Rn} {h0 h1 h2 : List Int} {z0 z1 g : Int} {cells : List Int} {evs : List Ev} (h : IV n a b rns h0 h1 h2 z0 z1 g cells evs.length) {k : Nat} (hk : k < rns.length) (hj : (k : Int) = a + 1) {R : List Int} (hr : rns.getD k r0 = ⟨2, 13, R, false⟩) (hR : R.length = 8) (hA : FA n b z0 13 (R.getD 0 0) (R.getD 1 0) (R.getD 2 0)) (hc : can (psys n a q b) (pst rns h0 h1 h2 z0 z1 g cells evs) k = true) : Nxt n a q b (pst rns h0 h1 h2 z0 z1 g cells evs) k := by
  have y1 := hy.n0
  have y2 := hy.a0
  have y3 := hy.b0
  have hlb := h.lenb y2.1
  have hgb := h.g0
  have hz0r := h.z0r
  have hz1r := h.z1r
  have hs0 := h.s0n
  have hs1 := h.s1n
  have hi : ins (psys n a q b) (pst rns h0 h1 h2 z0 z1 g cells evs) k = ⟨13, 3, 0, 0⟩ := by unfold ins rn pst; dsimp only; rw [hr]; rfl
  have hr1 : rn (pst rns h0 h1 h2 z0 z1 g cells evs) k = ⟨2, 13, R, false⟩ := hr
  have hr2 : rns.getD k r0 = ⟨2, 13, R, false⟩ := hr
  have hst := step13 (t := pst rns h0 h1 h2 z0 z1 g cells evs) hk hr1 hi
  refine ⟨hst.1, rns.set k ⟨2, 14, R, false⟩, h0, h1, h2, z0, z1, g, cells.set (cel (psys n a q b) (pst rns h0 h1 h2 z0 z1 g cells evs) k).toNat (R.getD 0 0), hst.2.trans rfl, ?_⟩
  refine h.move hk hr2 (Loc.mkF y2.1 hj ⟨14, R, rfl, by simp [hR], by have hB := hA; simp [-List.getD_eq_getElem?_getD, FA, getD_set, hR] at hB ⊢ <;> omega⟩) (fun j hj hne hL => hL) (by omega) (by omega) (by omega) (by omega) ?_ ?_ ?_ (by rw [List.length_set]; exact h.cl) ?_
  · (have hB := hA; simp [-List.getD_eq_getElem?_getD, w, wC, wW, wF, wK, tok, tF, gc, lenC, getD_set, hR, FA] at hB ⊢ <;> omega)
  · (have hB := hA; simp [-List.getD_eq_getElem?_getD, w, wC, wW, wF, wK, tok, tF, gc, lenC, getD_set, hR, FA] at hB ⊢ <;> omega)
  · (have hB := hA; simp [-List.getD_eq_getElem?_getD, w, wC, wW, wF, wK, tok, tF, gc, lenC, getD_set, hR, FA] at hB ⊢ <;> omega)
  · (intro hk0; first | omega | (have hB := hA; simp [-List.getD_eq_getElem?_getD, w, wC, wW, wF, wK, tok, tF, gc, lenC, getD_set, hR, FA] at hB ⊢ <;> omega))
theorem goF14 {n a q b : Int} (hy : Hy n a q b) {rns : List Rn} {h0 h1 h2 : List Int} {z0 z1 g : Int} {cells : List Int} {evs : List Ev} (h : IV n a b rns h0 h1 h2 z0 z1 g cells evs.length) {k : Nat} (hk : k < rns.length) (hj : (k : Int) = a + 1) {R : List Int} (hr : rns.getD k r0 = ⟨2, 14, R, false⟩) (hR : R.length = 8) (hA : FA n b z0 14 (R.getD 0 0) (R.getD 1 0) (R.getD 2 0)) (hc : can (psys n a q b) (pst rns h0 h1 h2 z0 z1 g cells evs) k = true) : Nxt n a q b (pst rns h0 h1 h2 z0 z1 g cells evs) k := by
  have y1 := hy.n0
  have y2 := hy.a0
  have y3 := hy.b0
  have hlb := h.lenb y2.1
  have hgb := h.g0
  have hz0r := h.z0r
  have hz1r := h.z1r
  have hs0 := h.s0n
  have hs1 := h.s1n
  have hi : ins (psys n a q b) (pst rns h0 h1 h2 z0 z1 g cells evs) k = ⟨5, 0, 3, 0⟩ := by unfold ins rn pst; dsimp only; rw [hr]; rfl
  have hr1 : rn (pst rns h0 h1 h2 z0 z1 g cells evs) k = ⟨2, 14, R, false⟩ := hr
  have hr2 : rns.getD k r0 = ⟨2, 14, R, false⟩ := hr
  have hz0 : z0 = 0 := by unfold FA at hA; omega
  have hln : ((h0 ++ [R.getD 3 0]).length : Int) = h0.length + 1 := by simp
  have hst := step5 (t := pst rns h0 h1 h2 z0 z1 g cells evs) hk hr1 hi (by show decide (z0 = 1) = false; exact decide_eq_false (by omega))
  refine ⟨hst.1, rns.set k ⟨2, 15, R, false⟩, (h0 ++ [R.getD 3 0]), h1, h2, z0, z1, g, cells, hst.2.trans rfl, ?_⟩
  refine h.move hk hr2 (Loc.mkF y2.1 hj ⟨15, R, rfl, by simp [hR], by have hB := hA; simp [-List.getD_eq_getElem?_getD, FA, getD_set, hR] at hB ⊢ <;> omega⟩) (fun j hj hne hL => hL.mono (fun _ _ _ => by first | omega | simp_all) (fun _ _ _ _ => by first | omega | simp_all) (fun _ => by first | rfl | omega) (fun _ => by first | exact ⟨rfl, id⟩ | omega)) (by omega) (by omega) (by omega) (by omega) ?_ ?_ ?_ h.cl ?_
  · (have hB := hA; simp [-List.getD_eq_getElem?_getD, w, wC, wW, wF, wK, tok, tF, gc, lenC, getD_set, hR, FA] at hB ⊢ <;> omega)
  · (have hB := hA; simp [-List.getD_eq_getElem?_getD, w, wC, wW, wF, wK, tok, tF, gc, lenC, getD_set, hR, FA] at hB ⊢ <;> omega)
  · (have hB := hA; simp [-List.getD_eq_getElem?_getD, w, wC, wW, wF, wK, tok, tF, gc, lenC, getD_set, hR, FA] at hB ⊢ <;> omega)
  · (intro hk0; first | omega | (have hB := hA; simp [-List.getD_eq_getElem?_getD, w, wC, wW, wF, wK, tok, tF, gc, lenC, getD_set, hR, FA] at hB ⊢ <;> omega))
theorem goF15 {n a q b : Int} (hy : Hy n a q b) {rns : List Rn} {h0 h1 h2 : List Int} {z0 z1 g : Int} {cells : List Int} {evs : List Ev} (h : IV n a b rns h0 h1 h2 z0 z1 g cells evs.length) {k : Nat} (hk : k < rns.length) (hj : (k : Int) = a + 1) {R : List Int} (hr : rns.getD k r0 = ⟨2, 15, R, false⟩) (hR : R.length = 8) (hA : FA n b z0 15 (R.getD 0 0) (R.getD 1 0) (R.getD 2 0)) (hc : can (psys n a q b) (pst rns h0 h1 h2 z0 z1 g cells evs) k = true) : Nxt n a q b (pst rns h0 h1 h2 z0 z1 g cells evs) k := by
  have y1 := hy.n0
  have y2 := hy.a0
  have y3 := hy.b0
  have hlb := h.lenb y2.1
  have hgb := h.g0
  have hz0r := h.z0r
  have hz1r := h.z1r
  have hs0 := h.s0n
  have hs1 := h.s1n
  have hi : ins (psys n a q b) (pst rns h0 h1 h2 z0 z1 g cells evs) k = ⟨2, 0, 2, 0⟩ := by unfold ins rn pst; dsimp only; rw [hr]; rfl
  have hr1 : rn (pst rns h0 h1 h2 z0 z1 g cells evs) k = ⟨2, 15, R, false⟩ := hr
  have hr2 : rns.getD k r0 = ⟨2, 15, R, false⟩ := hr
  have hB := hA
  simp [-List.getD_eq_getElem?_getD, FA] at hB
  have hw : IntKind.i64.wrap (R.getD 0 0 + R.getD 2 0) = R.getD 0 0 + 1 := by rw [wrap_id (by omega)]; omega
  have hst := step2 (t := pst rns h0 h1 h2 z0 z1 g cells evs) hk hr1 hi
  rw [show ((0 : Int).toNat) = 0 from rfl, show ((2 : Int).toNat) = 2 from rfl, hw] at hst
  clear hB
  have hst := hst
  refine ⟨hst.1, rns.set k ⟨2, 16, R.set 0 (R.getD 0 0 + 1), false⟩, h0, h1, h2, z0, z1, g, cells, hst.2.trans rfl, ?_⟩
  refine h.move hk hr2 (Loc.mkF y2.1 hj ⟨16, R.set 0 (R.getD 0 0 + 1), rfl, by simp [hR], by have hB := hA; simp [-List.getD_eq_getElem?_getD, FA, getD_set, hR] at hB ⊢ <;> omega⟩) (fun j hj hne hL => hL) (by omega) (by omega) (by omega) (by omega) ?_ ?_ ?_ h.cl ?_
  · (have hB := hA; simp [-List.getD_eq_getElem?_getD, w, wC, wW, wF, wK, tok, tF, gc, lenC, getD_set, hR, FA] at hB ⊢ <;> omega)
  · (have hB := hA; simp [-List.getD_eq_getElem?_getD, w, wC, wW, wF, wK, tok, tF, gc, lenC, getD_set, hR, FA] at hB ⊢ <;> omega)
  · (have hB := hA; simp [-List.getD_eq_getElem?_getD, w, wC, wW, wF, wK, tok, tF, gc, lenC, getD_set, hR, FA] at hB ⊢ <;> omega)
  · (intro hk0; first | omega | (have hB := hA; simp [-List.getD_eq_getElem?_getD, w, wC, wW, wF, wK, tok, tF, gc, lenC, getD_set, hR, FA] at hB ⊢ <;> omega))
theorem goF16 {n a q b : Int} (hy : Hy n a q b) {rns : List Rn} {h0 h1 h2 : List Int} {z0 z1 g : Int} {cells : List Int} {evs : List Ev} (h : IV n a b rns h0 h1 h2 z0 z1 g cells evs.length) {k : Nat} (hk : k < rns.length) (hj : (k : Int) = a + 1) {R : List Int} (hr : rns.getD k r0 = ⟨2, 16, R, false⟩) (hR : R.length = 8) (hA : FA n b z0 16 (R.getD 0 0) (R.getD 1 0) (R.getD 2 0)) (hc : can (psys n a q b) (pst rns h0 h1 h2 z0 z1 g cells evs) k = true) : Nxt n a q b (pst rns h0 h1 h2 z0 z1 g cells evs) k := by
  have y1 := hy.n0
  have y2 := hy.a0
  have y3 := hy.b0
  have hlb := h.lenb y2.1
  have hgb := h.g0
  have hz0r := h.z0r
  have hz1r := h.z1r
  have hs0 := h.s0n
  have hs1 := h.s1n
  have hi : ins (psys n a q b) (pst rns h0 h1 h2 z0 z1 g cells evs) k = ⟨4, 0, 0, 10⟩ := by unfold ins rn pst; dsimp only; rw [hr]; rfl
  have hr1 : rn (pst rns h0 h1 h2 z0 z1 g cells evs) k = ⟨2, 16, R, false⟩ := hr
  have hr2 : rns.getD k r0 = ⟨2, 16, R, false⟩ := hr
  have hst := step4 (t := pst rns h0 h1 h2 z0 z1 g cells evs) hk hr1 hi
  refine ⟨hst.1, rns.set k ⟨2, 10, R, false⟩, h0, h1, h2, z0, z1, g, cells, hst.2.trans rfl, ?_⟩
  refine h.move hk hr2 (Loc.mkF y2.1 hj ⟨10, R, rfl, by simp [hR], by have hB := hA; simp [-List.getD_eq_getElem?_getD, FA, getD_set, hR] at hB ⊢ <;> omega⟩) (fun j hj hne hL => hL) (by omega) (by omega) (by omega) (by omega) ?_ ?_ ?_ h.cl ?_
  · (have hB := hA; simp [-List.getD_eq_getElem?_getD, w, wC, wW, wF, wK, tok, tF, gc, lenC, getD_set, hR, FA] at hB ⊢ <;> omega)
  · (have hB := hA; simp [-List.getD_eq_getElem?_getD, w, wC, wW, wF, wK, tok, tF, gc, lenC, getD_set, hR, FA] at hB ⊢ <;> omega)
  · (have hB := hA; simp [-List.getD_eq_getElem?_getD, w, wC, wW, wF, wK, tok, tF, gc, lenC, getD_set, hR, FA] at hB ⊢ <;> omega)
  · (intro hk0; first | omega | (have hB := hA; simp [-List.getD_eq_getElem?_getD, w, wC, wW, wF, wK, tok, tF, gc, lenC, getD_set, hR, FA] at hB ⊢ <;> omega))
theorem goF17 {n a q b : Int} (hy : Hy n a q b) {rns : List Rn} {h0 h1 h2 : List Int} {z0 z1 g : Int} {cells : List Int} {evs : List Ev} (h : IV n a b rns h0 h1 h2 z0 z1 g cells evs.length) {k : Nat} (hk : k < rns.length) (hj : (k : Int) = a + 1) {R : List Int} (hr : rns.getD k r0 = ⟨2, 17, R, false⟩) (hR : R.length = 8) (hA : FA n b z0 17 (R.getD 0 0) (R.getD 1 0) (R.getD 2 0)) (hc : can (psys n a q b) (pst rns h0 h1 h2 z0 z1 g cells evs) k = true) : Nxt n a q b (pst rns h0 h1 h2 z0 z1 g cells evs) k := by
  have y1 := hy.n0
  have y2 := hy.a0
  have y3 := hy.b0
  have hlb := h.lenb y2.1
  have hgb := h.g0
  have hz0r := h.z0r
  have hz1r := h.z1r
  have hs0 := h.s0n
  have hs1 := h.s1n
  have hi : ins (psys n a q b) (pst rns h0 h1 h2 z0 z1 g cells evs) k = ⟨7, 0, 0, 0⟩ := by unfold ins rn pst; dsimp only; rw [hr]; rfl
  have hr1 : rn (pst rns h0 h1 h2 z0 z1 g cells evs) k = ⟨2, 17, R, false⟩ := hr
  have hr2 : rns.getD k r0 = ⟨2, 17, R, false⟩ := hr
  have hz : z0 = 0 := by unfold FA at hA; omega
  subst hz
  have hst := step7 (t := pst rns h0 h1 h2 0 z1 g cells evs) hk hr1 hi rfl
  refine ⟨hst.1, rns.set k ⟨2, 18, R, false⟩, h0, h1, h2, 1, z1, g, cells, hst.2.trans rfl, ?_⟩
  refine h.move hk hr2 (Loc.mkF y2.1 hj ⟨18, R, rfl, by simp [hR], by have hB := hA; simp [-List.getD_eq_getElem?_getD, FA, getD_set, hR] at hB ⊢ <;> omega⟩) (fun j hj hne hL => hL.mono (fun _ _ _ => by first | omega | simp_all) (fun _ _ _ _ => by first | omega | simp_all) (fun _ => by first | rfl | omega) (fun _ => by first | exact ⟨rfl, id⟩ | omega)) (by omega) (by omega) (by omega) (by omega) ?_ ?_ ?_ h.cl ?_
  · (have hB := hA; simp [-List.getD_eq_getElem?_getD, w, wC, wW, wF, wK, tok, tF, gc, lenC, getD_set, hR, FA] at hB ⊢ <;> omega)
  · (have hB := hA; simp [-List.getD_eq_getElem?_getD, w, wC, wW, wF, wK, tok, tF, gc, lenC, getD_set, hR, FA] at hB ⊢ <;> omega)
  · (have hB := hA; simp [-List.getD_eq_getElem?_getD, w, wC, wW, wF, wK, tok, tF, gc, lenC, getD_set, hR, FA] at hB ⊢ <;> omega)
  · (intro hk0; first | omega | (have hB := hA; simp [-List.getD_eq_getElem?_getD, w, wC, wW, wF, wK, tok, tF, gc, lenC, getD_set, hR, FA] at hB ⊢ <;> omega))
theorem goF18 {n a q b : Int} (hy : Hy n a q b) {rns : List Rn} {h0 h1 h2 : List Int} {z0 z1 g : Int} {cells : List Int} {evs : List Ev} (h : IV n a b rns h0 h1 h2 z0 z1 g cells evs.length) {k : Nat} (hk : k < rns.length) (hj : (k : Int) = a + 1) {R : List Int} (hr : rns.getD k r0 = ⟨2, 18, R, false⟩) (hR : R.length = 8) (hA : FA n b z0 18 (R.getD 0 0) (R.getD 1 0) (R.getD 2 0)) (hc : can (psys n a q b) (pst rns h0 h1 h2 z0 z1 g cells evs) k = true) : Nxt n a q b (pst rns h0 h1 h2 z0 z1 g cells evs) k := by
  have y1 := hy.n0
  have y2 := hy.a0
  have y3 := hy.b0
  have hlb := h.lenb y2.1
  have hgb := h.g0
  have hz0r := h.z0r
  have hz1r := h.z1r
  have hs0 := h.s0n
  have hs1 := h.s1n
  have hi : ins (psys n a q b) (pst rns h0 h1 h2 z0 z1 g cells evs) k = ⟨16, 0, 0, 0⟩ := by unfold ins rn pst; dsimp only; rw [hr]; rfl
  have hr1 : rn (pst rns h0 h1 h2 z0 z1 g cells evs) k = ⟨2, 18, R, false⟩ := hr
  have hr2 : rns.getD k r0 = ⟨2, 18, R, false⟩ := hr
  have hst := step16 (t := pst rns h0 h1 h2 z0 z1 g cells evs) hk hr1 hi
  refine ⟨hst.1, rns.set k ⟨2, 19, R, true⟩, h0, h1, h2, z0, z1, g, cells, hst.2.trans rfl, ?_⟩
  refine h.move hk hr2 (Loc.mkF y2.1 hj ⟨19, R, rfl, by simp [hR], by have hB := hA; simp [-List.getD_eq_getElem?_getD, FA, getD_set, hR] at hB ⊢ <;> omega⟩) (fun j hj hne hL => hL) (by omega) (by omega) (by omega) (by omega) ?_ ?_ ?_ h.cl ?_
  · (have hB := hA; simp [-List.getD_eq_getElem?_getD, w, wC, wW, wF, wK, tok, tF, gc, lenC, getD_set, hR, FA] at hB ⊢ <;> omega)
  · (have hB := hA; simp [-List.getD_eq_getElem?_getD, w, wC, wW, wF, wK, tok, tF, gc, lenC, getD_set, hR, FA] at hB ⊢ <;> omega)
  · (have hB := hA; simp [-List.getD_eq_getElem?_getD, w, wC, wW, wF, wK, tok, tF, gc, lenC, getD_set, hR, FA] at hB ⊢ <;> omega)
  · (intro hk0; first | omega | (have hB := hA; simp [-List.getD_eq_getElem?_getD, w, wC, wW, wF, wK, tok, tF, gc, lenC, getD_set, hR, FA] at hB ⊢ <;> omega))
theorem goF {n a q b : Int} (hy : Hy n a q b) {rns : List Rn} {h0 h1 h2 : List Int} {z0 z1 g : Int} {cells : List Int} {evs : List Ev} (h : IV n a b rns h0 h1 h2 z0 z1 g cells evs.length) {k : Nat} (hk : k < rns.length) (hj : (k : Int) = a + 1) (hc : can (psys n a q b) (pst rns h0 h1 h2 z0 z1 g cells evs) k = true) : Nxt n a q b (pst rns h0 h1 h2 z0 z1 g cells evs) k := by
  have y1 := hy.n0
  have y2 := hy.a0
  have y3 := hy.b0
  have hlb := h.lenb y2.1
  have hgb := h.g0
  have hz0r := h.z0r
  have hz1r := h.z1r
  have hs0 := h.s0n
  have hs1 := h.s1n
  have he := can_going hc
  obtain ⟨p, R, hr, hR, hA⟩ := (h.loc k hk).f hj
  have hre : (rn (pst rns h0 h1 h2 z0 z1 g cells evs) k).ended = decide (p = 19) := by unfold rn pst; dsimp only; rw [hr]
  rw [hre] at he
  have hpe : p ≠ 19 := of_decide_eq_false he
  clear hre he
  have hp : p = 0 ∨ p = 1 ∨ p = 2 ∨ p = 3 ∨ p = 4 ∨ p = 5 ∨ p = 6 ∨ p = 7 ∨ p = 8 ∨ p = 9 ∨ p = 10 ∨ p = 11 ∨ p = 12 ∨ p = 13 ∨ p = 14 ∨ p = 15 ∨ p = 16 ∨ p = 17 ∨ p = 18 := by unfold FA at hA; omega
  rcases hp with rfl | rfl | rfl | rfl | rfl | rfl | rfl | rfl | rfl | rfl | rfl | rfl | rfl | rfl | rfl | rfl | rfl | rfl | rfl
  · exact goF0 hy h hk hj hr hR hA hc
  · exact goF1 hy h hk hj hr hR hA hc
  · exact goF2 hy h hk hj hr hR hA hc
  · exact goF3 hy h hk hj hr hR hA hc
  · exact goF4 hy h hk hj hr hR hA hc
  · exact goF5 hy h hk hj hr hR hA hc
  · exact goF6 hy h hk hj hr hR hA hc
  · exact goF7 hy h hk hj hr hR hA hc
  · exact goF8 hy h hk hj hr hR hA hc
  · exact goF9 hy h hk hj hr hR hA hc
  · exact goF10 hy h hk hj hr hR hA hc
  · exact goF11 hy h hk hj hr hR hA hc
  · exact goF12 hy h hk hj hr hR hA hc
  · exact goF13 hy h hk hj hr hR hA hc
  · exact goF14 hy h hk hj hr hR hA hc
  · exact goF15 hy h hk hj hr hR hA hc
  · exact goF16 hy h hk hj hr hR hA hc
  · exact goF17 hy h hk hj hr hR hA hc
  · exact goF18 hy h hk hj hr hR hA hc
theorem goK0 {n a q b : Int} (hy : Hy n a q b) {rns : List Rn} {h0 h1 h2 : List Int} {z0 z1 g : Int} {cells : List Int} {evs : List Ev} (h : IV n a b rns h0 h1 h2 z0 z1 g cells evs.length) {k : Nat} (hk : k < rns.length) (hj : a + 2 ≤ (k : Int)) {R : List Int} (hr : rns.getD k r0 = ⟨3, 0, R, false⟩) (hR : R.length = 8) (hA : KA z1 g 0) (hc : can (psys n a q b) (pst rns h0 h1 h2 z0 z1 g cells evs) k = true) : Nxt n a q b (pst rns h0 h1 h2 z0 z1 g cells evs) k := by
  have y1 := hy.n0
  have y2 := hy.a0
  have y3 := hy.b0
  have hlb := h.lenb y2.1
  have hgb := h.g0
  have hz0r := h.z0r
  have hz1r := h.z1r
  have hs0 := h.s0n
  have hs1 := h.s1n
  have hi : ins (psys n a q b) (pst rns h0 h1 h2 z0 z1 g cells evs) k = ⟨11, 0, 0, 0⟩ := by unfold ins rn pst; dsimp only; rw [hr]; rfl
  have hr1 : rn (pst rns h0 h1 h2 z0 z1 g cells evs) k = ⟨3, 0, R, false⟩ := hr
  have hr2 : rns.getD k r0 = ⟨3, 0, R, false⟩ := hr
  rw [can11 (by rw [hr1]) hi] at hc
  have hg0 : g = 0 := of_decide_eq_true hc
  have hst := step11 (t := pst rns h0 h1 h2 z0 z1 g cells evs) hk hr1 hi
  refine ⟨hst.1, rns.set k ⟨3, 1, R, false⟩, h0, h1, h2, z0, z1, g, cells, hst.2.trans rfl, ?_⟩
  refine h.move hk hr2 (Loc.mkK y2.1 hj ⟨1, R, rfl, by simp [hR], by have hB := hA; simp [-List.getD_eq_getElem?_getD, KA, getD_set, hR] at hB ⊢ <;> omega⟩) (fun j hj hne hL => hL) (by omega) (by omega) (by omega) (by omega) ?_ ?_ ?_ h.cl ?_
  · (have hB := hA; simp [-List.getD_eq_getElem?_getD, w, wC, wW, wF, wK, tok, tF, gc, lenC, getD_set, hR, KA] at hB ⊢ <;> omega)
  · (have hB := hA; simp [-List.getD_eq_getElem?_getD, w, wC, wW, wF, wK, tok, tF, gc, lenC, getD_set, hR, KA] at hB ⊢ <;> omega)
  · (have hB := hA; simp [-List.getD_eq_getElem?_getD, w, wC, wW, wF, wK, tok, tF, gc, lenC, getD_set, hR, KA] at hB ⊢ <;> omega)
  · (intro hk0; first | omega | (have hB := hA; simp [-List.getD_eq_getElem?_getD, w, wC, wW, wF, wK, tok, tF, gc, lenC, getD_set, hR, KA] at hB ⊢ <;> omega))
theorem goK1 {n a q b : Int} (hy : Hy n a q b) {rns : List Rn} {h0 h1 h2 : List Int} {z0 z1 g : Int} {cells : List Int} {evs : List Ev} (h : IV n a b rns h0 h1 h2 z0 z1 g cells evs.length) {k : Nat} (hk : k < rns.length) (hj : a + 2 ≤ (k : Int)) {R : List Int} (hr : rns.getD k r0 = ⟨3, 1, R, false⟩) (hR : R.length = 8) (hA : KA z1 g 1) (hc : can (psys n a q b) (pst rns h0 h1 h2 z0 z1 g cells evs) k = true) : Nxt n a q b (pst rns h0 h1 h2 z0 z1 g cells evs) k := by
  have y1 := hy.n0
  have y2 := hy.a0
  have y3 := hy.b0
  have hlb := h.lenb y2.1
  have hgb := h.g0
  have hz0r := h.z0r
  have hz1r := h.z1r
  have hs0 := h.s0n
  have hs1 := h.s1n
  have hi : ins (psys n a q b) (pst rns h0 h1 h2 z0 z1 g cells evs) k = ⟨7, 1, 0, 0⟩ := by unfold ins rn pst; dsimp only; rw [hr]; rfl
  have hr1 : rn (pst rns h0 h1 h2 z0 z1 g cells evs) k = ⟨3, 1, R, false⟩ := hr
  have hr2 : rns.getD k r0 = ⟨3, 1, R, false⟩ := hr
  have hz : z1 = 0 := by unfold KA at hA; omega
  subst hz
  have hst := step7 (t := pst rns h0 h1 h2 z0 0 g cells evs) hk hr1 hi rfl
  refine ⟨hst.1, rns.set k ⟨3, 2, R, false⟩, h0, h1, h2, z0, 1, g, cells, hst.2.trans rfl, ?_⟩
  refine h.move hk hr2 (Loc.mkK y2.1 hj ⟨2, R, rfl, by simp [hR], by have hB := hA; simp [-List.getD_eq_getElem?_getD, KA, getD_set, hR] at hB ⊢ <;> omega⟩) (fun j hj hne hL => hL.mono (fun _ _ _ => by first | omega | simp_all) (fun _ _ _ _ => by first | omega | simp_all) (fun _ => by first | rfl | omega) (fun _ => by first | exact ⟨rfl, id⟩ | omega)) (by omega) (by omega) (by omega) (by omega) ?_ ?_ ?_ h.cl ?_
  · (have hB := hA; simp [-List.getD_eq_getElem?_getD, w, wC, wW, wF, wK, tok, tF, gc, lenC, getD_set, hR, KA] at hB ⊢ <;> omega)
  · (have hB := hA; simp [-List.getD_eq_getElem?_getD, w, wC, wW, wF, wK, tok, tF, gc, lenC, getD_set, hR, KA] at hB ⊢ <;> omega)
  · (have hB := hA; simp [-List.getD_eq_getElem?_getD, w, wC, wW, wF, wK, tok, tF, gc, lenC, getD_set, hR, KA] at hB ⊢ <;> omega)
  · (intro hk0; first | omega | (have hB := hA; simp [-List.getD_eq_getElem?_getD, w, wC, wW, wF, wK, tok, tF, gc, lenC, getD_set, hR, KA] at hB ⊢ <;> omega))
theorem goK2 {n a q b : Int} (hy : Hy n a q b) {rns : List Rn} {h0 h1 h2 : List Int} {z0 z1 g : Int} {cells : List Int} {evs : List Ev} (h : IV n a b rns h0 h1 h2 z0 z1 g cells evs.length) {k : Nat} (hk : k < rns.length) (hj : a + 2 ≤ (k : Int)) {R : List Int} (hr : rns.getD k r0 = ⟨3, 2, R, false⟩) (hR : R.length = 8) (hA : KA z1 g 2) (hc : can (psys n a q b) (pst rns h0 h1 h2 z0 z1 g cells evs) k = true) : Nxt n a q b (pst rns h0 h1 h2 z0 z1 g cells evs) k := by
  have y1 := hy.n0
  have y2 := hy.a0
  have y3 := hy.b0
  have hlb := h.lenb y2.1
  have hgb := h.g0
  have hz0r := h.z0r
  have hz1r := h.z1r
  have hs0 := h.s0n
  have hs1 := h.s1n
  have hi : ins (psys n a q b) (pst rns h0 h1 h2 z0 z1 g cells evs) k = ⟨16, 0, 0, 0⟩ := by unfold ins rn pst; dsimp only; rw [hr]; rfl
  have hr1 : rn (pst rns h0 h1 h2 z0 z1 g cells evs) k = ⟨3, 2, R, false⟩ := hr
  have hr2 : rns.getD k r0 = ⟨3, 2, R, false⟩ := hr
  have hst := step16 (t := pst rns h0 h1 h2 z0 z1 g cells evs) hk hr1 hi
  refine ⟨hst.1, rns.set k ⟨3, 3, R, true⟩, h0, h1, h2, z0, z1, g, cells, hst.2.trans rfl, ?_⟩
  refine h.move hk hr2 (Loc.mkK y2.1 hj ⟨3, R, rfl, by simp [hR], by have hB := hA; simp [-List.getD_eq_getElem?_getD, KA, getD_set, hR] at hB ⊢ <;> omega⟩) (fun j hj hne hL => hL) (by omega) (by omega) (by omega) (by omega) ?_ ?_ ?_ h.cl ?_
  · (have hB := hA; simp [-List.getD_eq_getElem?_getD, w, wC, wW, wF, wK, tok, tF, gc, lenC, getD_set, hR, KA] at hB ⊢ <;> omega)
  · (have hB := hA; simp [-List.getD_eq_getElem?_getD, w, wC, wW, wF, wK, tok, tF, gc, lenC, getD_set, hR, KA] at hB ⊢ <;> omega)
  · (have hB := hA; simp [-List.getD_eq_getElem?_getD, w, wC, wW, wF, wK, tok, tF, gc, lenC, getD_set, hR, KA] at hB ⊢ <;> omega)
  · (intro hk0; first | omega | (have hB := hA; simp [-List.getD_eq_getElem?_getD, w, wC, wW, wF, wK, tok, tF, gc, lenC, getD_set, hR, KA] at hB ⊢ <;> omega))
theorem goK {n a q b : Int} (hy : Hy n a q b) {rns : List Rn} {h0 h1 h2 : List Int} {z0 z1 g : Int} {cells : List Int} {evs : List Ev} (h : IV n a b rns h0 h1 h2 z0 z1 g cells evs.length) {k : Nat} (hk : k < rns.length) (hj : a + 2 ≤ (k : Int)) (hc : can (psys n a q b) (pst rns h0 h1 h2 z0 z1 g cells evs) k = true) : Nxt n a q b (pst rns h0 h1 h2 z0 z1 g cells evs) k := by
  have y1 := hy.n0
  have y2 := hy.a0
  have y3 := hy.b0
  have hlb := h.lenb y2.1
  have hgb := h.g0
  have hz0r := h.z0r
  have hz1r := h.z1r
  have hs0 := h.s0n
  have hs1 := h.s1n
  have he := can_going hc
  obtain ⟨p, R, hr, hR, hA⟩ := (h.loc k hk).k hj
  have hre : (rn (pst rns h0 h1 h2 z0 z1 g cells evs) k).ended = decide (p = 3) := by unfold rn pst; dsimp only; rw [hr]
  rw [hre] at he
  have hpe : p ≠ 3 := of_decide_eq_false he
  clear hre he
  have hp : p = 0 ∨ p = 1 ∨ p = 2 := by unfold KA at hA; omega
  rcases hp with rfl | rfl | rfl
  · exact goK0 hy h hk hj hr hR hA hc
  · exact goK1 hy h hk hj hr hR hA hc
  · exact goK2 hy h hk hj hr hR hA hc
theorem go {n a q b : Int} (hy : Hy n a q b) {rns : List Rn} {h0 h1 h2 : List Int} {z0 z1 g : Int} {cells : List Int} {evs : List Ev} (h : IV n a b rns h0 h1 h2 z0 z1 g cells evs.length) {k : Nat} (hk : k < rns.length) (hc : can (psys n a q b) (pst rns h0 h1 h2 z0 z1 g cells evs) k = true) : Nxt n a q b (pst rns h0 h1 h2 z0 z1 g cells evs) k := by
  by_cases h0 : k = 0
  · exact goC hy h hk h0 hc
  by_cases h1 : (k : Int) ≤ a
  · exact goW hy h hk (by omega) h1 hc
  by_cases h2 : (k : Int) = a + 1
  · exact goF hy h hk h2 hc
  · exact goK hy h hk (by omega) hc
end PQ
end Mc
end Go.Proofs.Ytghpfhoajcgghaa
