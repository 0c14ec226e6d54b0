/-
 How a system and lists of numbers among a law's arguments are opened.
-/
import Derived.Test.YtdjanbojhblijaaGreatRows
import Derived.Test.YtdjanbojhblijaaGreatSyAg
import Derived.Deep.Slices
import Derived.SizedLaws
import Derived.ProofKit
import Derived.OpenShut
import Derived.ChangeOld
namespace Go.Proofs.YtdjanbojhblijaaGreat
open Go.ChangeShapes Go.WideShapes Go.ChangeAt Go.RowKit Go.Deep
set_option linter.unusedVariables false
set_option linter.unusedSimpArgs false
namespace LW
open Mc
theorem spot_none {w : World} {a : Addr} {v : Value} (h : w.cell? (a.add 0) = some v) : ∃ b off, a = ⟨b, off, none⟩ := by
 obtain ⟨b, off, spot⟩ := a
 have : spot = none := by simpa [Addr.add] using World.cell?_spot h
 subst this
 exact ⟨b, off, rfl⟩
theorem add_none (b off r : Nat) : (⟨b, off, none⟩ : Addr).add r = ⟨b, off + r, none⟩ := by
 unfold Addr.add; split <;> simp_all
theorem getD_range {α : Type} (f : Nat → α) (n j : Nat) (d : α) (h : j < n) : ((List.range n).map f).getD j d = f j := by
 rw [List.getD_eq_getElem?_getD, List.getElem?_map, List.getElem?_range h]
 rfl
theorem getD_range' {α : Type} (f : Nat → α) (n j : Nat) (d : α) (h : ¬ j < n) : ((List.range n).map f).getD j d = d := by
 rw [List.getD_eq_getElem?_getD, List.getElem?_map, List.getElem?_eq_none (by simpa using h)]
 rfl
theorem cellsI1 : Tryz.prog.cellsOf 3 = 1 := by kernel_rfl
theorem cellsSI : Tryz.prog.cellsOf 23 = 1 := by kernel_rfl
theorem cellsIn : Tryz.prog.cellsOf 75 = 4 := by kernel_rfl
theorem cellsSIn : Tryz.prog.cellsOf 73 = 1 := by kernel_rfl
theorem cellsSSIn : Tryz.prog.cellsOf 22 = 1 := by kernel_rfl
theorem cellsSys : Tryz.prog.cellsOf 25 = 5 := by kernel_rfl
/-- A list of numbers. -/
theorem open_nums {H : Type} {enc : TypeId × Value → H} {W : World} {v : Value} {n : Nat} {y : DataW H × List MemPlace}
  (h : DataW.trod enc Tryz.prog W 0 (fun _ => true) true n 23 [v] = some y) :
  ∃ (a : Option Addr) (c : Nat) (xs : List Int), v = .slice a xs.length c ∧ NR W a xs ∧ (∀ j, i64 (xs.getD j 0)) ∧ xs.length ≤ c ∧ c ≤ maxLen ∧ (a = none → c = 0) ∧ ((y.1 = .nil ∧ xs.length = 0) ∨ ∃ el sp, y.1 = .slice el sp ∧ el.length = xs.length) := by
 rcases open_slice1 Tryz.underlying23 cellsI1 h with ⟨hcs, hx⟩ | ⟨a, len, cap, m, n', V, D, Pl, hcs, _, hl, hm, hmm, hx, hall⟩
 ·simp at hcs
  exact ⟨none, 0, [], hcs, .inl rfl, fun j => by simpa using i64_0, Nat.le_refl _, Nat.zero_le _, fun _ => rfl, .inl ⟨by rw [hx], rfl⟩⟩
 ·simp at hcs hmm
  have hmm' := hmm.symm
  subst hmm'
  obtain ⟨Z, hZ⟩ := choose_lt (α := Int) (p := fun i z => V i = .int .i64 z ∧ i64 z) (fun i hi => by
   obtain ⟨_, h2⟩ := hall i hi
   obtain ⟨z, e, _, hw⟩ := DataW.trod_int Tryz.underlying3 h2
   simp at e
   exact ⟨z, e, (bounds_i64 hw).1, (bounds_i64 hw).2⟩)
  refine ⟨some a, cap, (List.range len).map Z, by simpa using hcs, ?_, fun j => ?_, by simpa using hl, hm, (fun h => by cases h), .inr ⟨_, _, by rw [hx], by simp⟩⟩
  ·rcases Nat.eq_zero_or_pos len with h0 | h0
   ·left; subst h0; rfl
   ·right
    obtain ⟨b, off, rfl⟩ := spot_none (hall 0 (by omega)).1
    refine ⟨b, off, rfl, fun j hj => ?_⟩
    have hj' : j < len := by simpa using hj
    have h1 := (hall j (by omega)).1
    rw [add_none, (hZ j (by omega)).1] at h1
    rw [getD_range Z len j 0 hj']
    exact h1
  ·by_cases hj : j < len
   ·rw [getD_range Z len j 0 hj]; exact (hZ j (by omega)).2
   ·rw [getD_range' Z len j 0 hj]; exact i64_0
/-- Numbers of an instruction are numbers. -/
def iIns (i : Ins) : Prop := i64 i.op ∧ i64 i.a ∧ i64 i.b ∧ i64 i.c
theorem iIns_0 : iIns i0 := ⟨i64_0, i64_0, i64_0, i64_0⟩
set_option maxRecDepth 100000 in
/-- Instructions. -/
theorem open_insts {H : Type} {enc : TypeId × Value → H} {W : World} {v : Value} {n : Nat} {y : DataW H × List MemPlace}
  (h : DataW.trod enc Tryz.prog W 0 (fun _ => true) true n 73 [v] = some y) :
  ∃ (a : Option Addr) (c : Nat) (l : List Ins), v = .slice a l.length c ∧ IR W a l ∧ (∀ j, iIns (l.getD j i0)) ∧ l.length ≤ 9223372036854775807 := by
 have hInh : Inhabited Ins := ⟨i0⟩
 rcases open_slice Tryz.underlying73 h with ⟨hcs, hx⟩ | ⟨a, len, cap, m, n', D, Pl, hcs, _, hl, hm, hmm, hx, hall⟩
 ·simp at hcs
  exact ⟨none, 0, [], hcs, .inl rfl, fun j => by simpa using iIns_0, by simp⟩
 ·simp at hcs hmm
  have hmm' := hmm.symm
  subst hmm'
  obtain ⟨Z, hZ⟩ := choose_lt (α := Ins) (p := fun i z => W.cell? (a.add (i * 4)) = some (.int .i64 z.op) ∧ W.cell? (a.add (i * 4 + 1)) = some (.int .i64 z.a) ∧ W.cell? (a.add (i * 4 + 2)) = some (.int .i64 z.b) ∧ W.cell? (a.add (i * 4 + 3)) = some (.int .i64 z.c) ∧ iIns z) (fun i hi => by
   obtain ⟨cs', h1, h2⟩ := hall i hi
   rw [cellsIn] at h1
   obtain ⟨_, hlen, hcell⟩ := World.cells?_some h1
   obtain ⟨xs, k, hk, hxy, _, hxl, hf⟩ := DataW.trod_struct Tryz.underlying75 h2
   match xs, hxl, cs', hlen with
   | [y0, y1, y2, y3], _, [v0, v1, v2, v3], _ =>
    have g0 : DataW.trod enc Tryz.prog W 0 (fun _ => true) true k 3 [v0] = some y0 := by simpa [cellsI1] using hf 0 _ rfl
    have g1 : DataW.trod enc Tryz.prog W 0 (fun _ => true) true k 3 [v1] = some y1 := by simpa [cellsI1] using hf 1 _ rfl
    have g2 : DataW.trod enc Tryz.prog W 0 (fun _ => true) true k 3 [v2] = some y2 := by simpa [cellsI1] using hf 2 _ rfl
    have g3 : DataW.trod enc Tryz.prog W 0 (fun _ => true) true k 3 [v3] = some y3 := by simpa [cellsI1] using hf 3 _ rfl
    obtain ⟨z0, e0, _, w0⟩ := DataW.trod_int Tryz.underlying3 g0
    obtain ⟨z1, e1, _, w1⟩ := DataW.trod_int Tryz.underlying3 g1
    obtain ⟨z2, e2, _, w2⟩ := DataW.trod_int Tryz.underlying3 g2
    obtain ⟨z3, e3, _, w3⟩ := DataW.trod_int Tryz.underlying3 g3
    simp at e0 e1 e2 e3
    subst e0 e1 e2 e3
    have c0 := hcell 0 (by omega)
    have c1 := hcell 1 (by omega)
    have c2 := hcell 2 (by omega)
    have c3 := hcell 3 (by omega)
    rw [add_add] at c0 c1 c2 c3
    exact ⟨⟨z0, z1, z2, z3⟩, by simpa using c0, by simpa using c1, by simpa using c2, by simpa using c3, bounds_i64 w0, bounds_i64 w1, bounds_i64 w2, bounds_i64 w3⟩)
  have hml : cap ≤ 9223372036854775807 := by simpa [maxLen] using hm
  refine ⟨some a, cap, (List.range len).map Z, by simpa using hcs, ?_, fun j => ?_, by simp; omega⟩
  ·rcases Nat.eq_zero_or_pos len with h0 | h0
   ·left; subst h0; rfl
   ·right
    obtain ⟨b, off, rfl⟩ := spot_none (by simpa using (hZ 0 (by omega)).1)
    refine ⟨b, off, rfl, fun j hj => ?_⟩
    have hj' : j < len := by simpa using hj
    obtain ⟨h1, h2, h3, h4, _⟩ := hZ j (by omega)
    rw [add_none] at h1 h2 h3 h4
    rw [getD_range Z len j i0 hj']
    exact ⟨h1, by rw [Nat.add_assoc]; exact h2, by rw [Nat.add_assoc]; exact h3, by rw [Nat.add_assoc]; exact h4⟩
  ·by_cases hj : j < len
   ·rw [getD_range Z len j i0 hj]; exact (hZ j (by omega)).2.2.2.2
   ·rw [getD_range' Z len j i0 hj]; exact iIns_0
/-- Programs. -/
theorem open_progs {H : Type} {enc : TypeId × Value → H} {W : World} {v : Value} {n : Nat} {y : DataW H × List MemPlace}
  (h : DataW.trod enc Tryz.prog W 0 (fun _ => true) true n 22 [v] = some y) :
  ∃ (a : Option Addr) (c : Nat) (ps : List (List Ins)), v = .slice a ps.length c ∧ PR W a ps ∧ (∀ p j, iIns ((ps.getD p []).getD j i0)) ∧ (∀ p, (ps.getD p []).length ≤ 9223372036854775807) ∧ ps.length ≤ 9223372036854775807 := by
 rcases open_slice1 Tryz.underlying22 cellsSIn h with ⟨hcs, hx⟩ | ⟨a, len, cap, m, n', V, D, Pl, hcs, _, hl, hm, hmm, hx, hall⟩
 ·simp at hcs
  exact ⟨none, 0, [], hcs, .inl rfl, fun p j => by simpa using iIns_0, fun p => by simp, by simp⟩
 ·simp at hcs hmm
  have hmm' := hmm.symm
  subst hmm'
  obtain ⟨Z, hZ⟩ := choose_lt (α := List Ins) (p := fun i l => (∃ A K, V i = .slice A l.length K ∧ IR W A l) ∧ (∀ j, iIns (l.getD j i0)) ∧ l.length ≤ 9223372036854775807) (fun i hi => by
   obtain ⟨_, h2⟩ := hall i hi
   obtain ⟨A, K, l, e, h3, h4, h5⟩ := open_insts h2
   exact ⟨l, ⟨A, K, e, h3⟩, h4, h5⟩)
  have hml : cap ≤ 9223372036854775807 := by simpa [maxLen] using hm
  refine ⟨some a, cap, (List.range len).map Z, by simpa using hcs, ?_, fun p j => ?_, fun p => ?_, by simp; omega⟩
  ·rcases Nat.eq_zero_or_pos len with h0 | h0
   ·left; subst h0; rfl
   ·right
    obtain ⟨b, off, rfl⟩ := spot_none (hall 0 (by omega)).1
    refine ⟨b, off, rfl, fun j hj => ?_⟩
    have hj' : j < len := by simpa using hj
    obtain ⟨⟨A, K, e, h3⟩, _⟩ := hZ j (by omega)
    have h1 := (hall j (by omega)).1
    rw [add_none, e] at h1
    rw [getD_range Z len j [] hj']
    exact ⟨A, K, h1, h3⟩
  ·by_cases hj : p < len
   ·rw [getD_range Z len p [] hj]; exact (hZ p (by omega)).2.1 j
   ·rw [getD_range' Z len p [] hj]; simpa using iIns_0
  ·by_cases hj : p < len
   ·rw [getD_range Z len p [] hj]; exact (hZ p (by omega)).2.2
   ·rw [getD_range' Z len p [] hj]; simp
/-- What is known of a system that is handed in. -/
structure SyI (W : World) (s : Syst) (pa ra : Option Addr) : Prop where
 sm : SM W s pa ra
 pn : s.progs.length ≤ 9223372036854775807
 rn : s.rooms.length ≤ 9223372036854775807
 pl : ∀ p, (s.progs.getD p []).length ≤ 9223372036854775807
 ni : ∀ p j, iIns ((s.progs.getD p []).getD j i0)
theorem SyI.below {w w' : World} {s : Syst} {pa ra : Option Addr} (h : SyI w s pa ra) (hb : Below w.heap.size w w') : SyI w' s pa ra := ⟨h.sm.below hb, h.pn, h.rn, h.pl, h.ni⟩
theorem array5 {cs : Array Value} (h : cs.size = 5) : ∃ a b c d e, cs = #[a, b, c, d, e] := by
 obtain ⟨l⟩ := cs
 match l, h with
 | [a, b, c, d, e], _ => exact ⟨a, b, c, d, e, rfl⟩
set_option maxRecDepth 100000 in
/-- A system. -/
theorem open_system {H : Type} {enc : TypeId × Value → H} {W : World} {r : Reach} {b0 : Nat} {v : Value} {d : DataW H} {p : List MemPlace}
  (hv : Value.okWide Tryz.prog W r b0 25 v) (h : DataW.Trod enc Tryz.prog W 0 (fun _ => true) true 25 v d p) :
  ∃ (s : Syst) (pa : Option Addr) (pc : Nat) (ra : Option Addr) (rc : Nat), v = .agg (syC s pa pc ra rc) ∧ SyI W s pa ra := by
 obtain ⟨cs, rfl, hsz⟩ := okWide_struct Tryz.underlying25 hv
 obtain ⟨c0, c1, c2, c3, c4, rfl⟩ := array5 (hsz.trans cellsSys)
 obtain ⟨fuel, hf⟩ := h
 obtain ⟨xs, n, _, hx, _, hlen, hg⟩ := DataW.trod_struct Tryz.underlying25 hf
 match xs, hlen with
 | [y0, y1, y2, y3, y4], _ =>
  have h0 := hg 0 _ rfl
  have h1 := hg 1 _ rfl
  have h2 := hg 2 _ rfl
  have h3 := hg 3 _ rfl
  have h4 := hg 4 _ rfl
  simp only [Value.cells] at h0 h1 h2 h3 h4
  replace h0 : DataW.trod enc Tryz.prog W 0 (fun _ => true) true n 22 [c0] = some y0 := by simpa [cellsSSIn] using h0
  replace h1 : DataW.trod enc Tryz.prog W 0 (fun _ => true) true n 23 [c1] = some y1 := by simpa [cellsSI] using h1
  replace h2 : DataW.trod enc Tryz.prog W 0 (fun _ => true) true n 3 [c2] = some y2 := by simpa [cellsI1] using h2
  replace h3 : DataW.trod enc Tryz.prog W 0 (fun _ => true) true n 3 [c3] = some y3 := by simpa [cellsI1] using h3
  replace h4 : DataW.trod enc Tryz.prog W 0 (fun _ => true) true n 3 [c4] = some y4 := by simpa [cellsI1] using h4
  obtain ⟨pa, pc, ps, rfl, p1, p2, p3, p4⟩ := open_progs h0
  obtain ⟨ra, rc, rs, rfl, r1, r2, r3, r4, _, _⟩ := open_nums h1
  obtain ⟨z2, e2, _, w2⟩ := DataW.trod_int Tryz.underlying3 h2
  obtain ⟨z3, e3, _, w3⟩ := DataW.trod_int Tryz.underlying3 h3
  obtain ⟨z4, e4, _, w4⟩ := DataW.trod_int Tryz.underlying3 h4
  simp at e2 e3 e4
  subst e2 e3 e4
  have hml : rc ≤ 9223372036854775807 := by simpa [maxLen] using r4
  exact ⟨⟨ps, rs, z2, z3, z4⟩, pa, pc, ra, rc, rfl, ⟨p1, r1⟩, p4, by show rs.length ≤ _; omega, p3, p2⟩
/-- What is known of a list of numbers that is handed in. -/
structure PkI (W : World) (a : Option Addr) (c : Nat) (xs : List Int) : Prop where
 nr : NR W a xs
 i6 : ∀ j, i64 (xs.getD j 0)
 lc : xs.length ≤ c
 nn : a = none → c = 0
 ln : xs.length ≤ 17592186043904
theorem PkI.below {w w' : World} {a : Option Addr} {c : Nat} {xs : List Int} (h : PkI w a c xs) (hb : Below w.heap.size w w') : PkI w' a c xs := ⟨h.nr.below hb, h.i6, h.lc, h.nn, h.ln⟩
end LW
end Go.Proofs.YtdjanbojhblijaaGreat
