/-
 How lists of events and places among a law's arguments are opened.
-/
import Derived.Test.YtdjanbojhblijaaGreatArgs13g
import Derived.Test.YtdjanbojhblijaaGreatErTg
namespace Go.Proofs.YtdjanbojhblijaaGreat
open Go.ChangeShapes Go.WideShapes Go.ChangeAt Go.RowKit Go.Deep
set_option linter.unusedVariables false
set_option linter.unusedSimpArgs false
namespace LW
open Mc
theorem cellsEv : Tryz.prog.cellsOf 35 = 5 := by kernel_rfl
theorem bytesEv : Tryz.prog.bytesOf 35 = 40 := by kernel_rfl
theorem cellsB1 : Tryz.prog.cellsOf 4 = 1 := by kernel_rfl
set_option maxRecDepth 100000 in
/-- Events. -/
theorem open_events {H : Type} {enc : TypeId × Value → H} {W : World} {v : Value} {n : Nat} {y : DataW H × List MemPlace}
  (h : DataW.trod enc Tryz.prog W 0 (fun _ => true) true n 26 [v] = some y) :
  ∃ (a : Option Addr) (c : Nat) (l : List Ev), v = .slice a l.length c ∧ EvI W a c l ∧ ((y.1 = .nil ∧ l.length = 0) ∨ ∃ el sp, y.1 = .slice el sp ∧ el.length = l.length) := by
 have hInh : Inhabited Ev := ⟨Tr.e0⟩
 rcases open_slice Tryz.underlying26 h with ⟨hcs, hx⟩ | ⟨a, len, cap, m, n', D, Pl, hcs, _, hl, hm, hmm, hx, hall⟩
 ·simp at hcs
  exact ⟨none, 0, [], hcs, ⟨.inl rfl, fun j => by simpa [Tr.ev] using iEv_0, Nat.le_refl _, Nat.zero_le _, fun _ => rfl⟩, .inl ⟨by rw [hx], rfl⟩⟩
 ·simp at hcs hmm
  have hmm' := hmm.symm
  subst hmm'
  obtain ⟨Z, hZ⟩ := choose_lt (α := Ev) (p := fun i z => W.cell? (a.add (i * 5)) = some (.int .i64 z.who) ∧ W.cell? (a.add (i * 5 + 1)) = some (.int .i64 z.op) ∧ W.cell? (a.add (i * 5 + 2)) = some (.int .i64 z.a) ∧ W.cell? (a.add (i * 5 + 3)) = some (.int .i64 z.value) ∧ W.cell? (a.add (i * 5 + 4)) = some (.bool z.shut) ∧ iEv z) (fun i hi => by
   obtain ⟨cs', h1, h2⟩ := hall i hi
   rw [cellsEv] at h1
   obtain ⟨_, hlen, hcell⟩ := World.cells?_some h1
   obtain ⟨xs, k, hk, hxy, _, hxl, hf⟩ := DataW.trod_struct Tryz.underlying35 h2
   match xs, hxl, cs', hlen with
   | [y0, y1, y2, y3, y4], _, [v0, v1, v2, v3, v4], _ =>
    have g0 : DataW.trod enc Tryz.prog W 0 (fun _ => true) true k 3 [v0] = some y0 := by simpa [cellsI1] using hf 0 _ rfl
    have g1 : DataW.trod enc Tryz.prog W 0 (fun _ => true) true k 3 [v1] = some y1 := by simpa [cellsI1] using hf 1 _ rfl
    have g2 : DataW.trod enc Tryz.prog W 0 (fun _ => true) true k 3 [v2] = some y2 := by simpa [cellsI1] using hf 2 _ rfl
    have g3 : DataW.trod enc Tryz.prog W 0 (fun _ => true) true k 3 [v3] = some y3 := by simpa [cellsI1] using hf 3 _ rfl
    have g4 : DataW.trod enc Tryz.prog W 0 (fun _ => true) true k 4 [v4] = some y4 := by simpa [cellsB1] using hf 4 _ rfl
    obtain ⟨z0, e0, _, w0⟩ := DataW.trod_int Tryz.underlying3 g0
    obtain ⟨z1, e1, _, w1⟩ := DataW.trod_int Tryz.underlying3 g1
    obtain ⟨z2, e2, _, w2⟩ := DataW.trod_int Tryz.underlying3 g2
    obtain ⟨z3, e3, _, w3⟩ := DataW.trod_int Tryz.underlying3 g3
    obtain ⟨z4, e4, _⟩ := DataW.trod_bool Tryz.underlying4 g4
    simp at e0 e1 e2 e3 e4
    subst e0 e1 e2 e3 e4
    have c0 := hcell 0 (by omega)
    have c1 := hcell 1 (by omega)
    have c2 := hcell 2 (by omega)
    have c3 := hcell 3 (by omega)
    have c4 := hcell 4 (by omega)
    rw [add_add] at c0 c1 c2 c3 c4
    exact ⟨⟨z0, z1, z2, z3, z4⟩, by simpa using c0, by simpa using c1, by simpa using c2, by simpa using c3, by simpa using c4, bounds_i64 w0, bounds_i64 w1, bounds_i64 w2, bounds_i64 w3⟩)
  have hml : cap ≤ 9223372036854775807 := by simpa [maxLen] using hm
  refine ⟨some a, cap, (List.range len).map Z, by simpa using hcs, ⟨?_, fun j => ?_, by simpa using hl, hml, fun h => by cases h⟩, .inr ⟨_, _, by rw [hx], by simp⟩⟩
  ·rcases Nat.eq_zero_or_pos len with h0 | h0
   ·left; subst h0; rfl
   ·right
    obtain ⟨b, off, rfl⟩ := spot_none (by simpa using (hZ 0 (by omega)).1)
    refine ⟨b, off, rfl, fun j hj => ?_⟩
    have hj' : j < len := by simpa using hj
    obtain ⟨h1, h2, h3, h4, h5, _⟩ := hZ j (by omega)
    rw [add_none] at h1 h2 h3 h4 h5
    rw [getD_range Z len j _ hj']
    exact ⟨h1, by rw [Nat.add_assoc]; exact h2, by rw [Nat.add_assoc]; exact h3, by rw [Nat.add_assoc]; exact h4, by rw [Nat.add_assoc]; exact h5⟩
  ·by_cases hj : j < len
   ·rw [Tr.ev, getD_range Z len j _ hj]; exact (hZ j (by omega)).2.2.2.2.2
   ·rw [Tr.ev, getD_range' Z len j _ hj]; exact iEv_0
set_option maxRecDepth 100000 in
/-- A list of events among the arguments. -/
theorem open_evs {H : Type} {enc : TypeId × Value → H} {W : World} {r : Reach} {b0 : Nat} {v : Value} {d : DataW H} {p : List MemPlace}
  (hv : Value.okWide Tryz.prog W r b0 26 v) (h : DataW.Trod enc Tryz.prog W 0 (fun _ => true) true 26 v d p) :
  ∃ (a : Option Addr) (c : Nat) (l : List Ev), v = .slice a l.length c ∧ EvI W a c l ∧ ((d = .nil ∧ l.length = 0) ∨ ∃ el sp, d = .slice el sp ∧ el.length = l.length) := by
 obtain ⟨a, len, cap, rfl⟩ := okWide_slice Tryz.underlying26 hv
 obtain ⟨fuel, hf⟩ := h
 obtain ⟨a', c, l, e, h1, h2⟩ := open_events (v := .slice a len cap) (by simpa [Value.cells] using hf)
 exact ⟨a', c, l, e, h1, h2⟩
end LW
end Go.Proofs.YtdjanbojhblijaaGreat
