/-
  What the builder's copyCheck and WriteString do to a builder of the call's own.
-/
import Derived.Test.YteakoajkmcbilabDoorBld
import Derived.Laws.Externs
import Derived.WalkLawsBesides
namespace Go.Proofs.YteakoajkmcbilabDoor
open Go.RowKit Go.Shelf
set_option linter.unusedVariables false
set_option linter.unusedSimpArgs false
namespace LW
open Words
theorem sizeBl : (Tryd.prog.info? 52).map (·.size) = some 2 := by kernel_rfl
theorem liesBl : liesAt Tryd.prog Tryd.prog.depth 52 (2 / Tryd.prog.cellsOf 52) 0 52 1 = true := by kernel_rfl
/-- A builder that was written to: its cells, and the row of its bytes. -/
structure Bw (w : World) (B b : Nat) (v : Value) (l : List Int) : Prop where
  base : B ≤ b
  cells : w.heap[b]? = some (.cells #[.pointer (some ⟨b, 0, none⟩), v] 52 (0, 0))
  row : w.ownsRowF B 5 1 v (vs l).length (vs l)
  apart : v.ownBlock ≠ some b
theorem Bw.bl {w : World} {B b : Nat} {v : Value} {l : List Int} (h : Bw w B b v l) : Bl w B b l := .inr ⟨h.base, v, h.cells, h.row, h.apart⟩
theorem noEscape (x : Value) (w : World) : (callFunc 67 #[x]).run Tryd.prog w = .ok (.value x) w := by
  rw [run_callFunc_extern Tryd.func67 (by kernel_rfl) (by kernel_rfl) (by kernel_rfl) (e := Extern.AbiNoEscape.same) (by kernel_rfl), Lib.run_noEscape]
  rfl
set_option maxHeartbeats 1000000 in
set_option maxRecDepth 100000 in
theorem bCheck (B b : Nat) (l : List Int) (w : World) (h : Bl w B b l) :
    Calls Tryd.prog 55 #[.pointer (some ⟨b, 0, none⟩)] w fun e w' => e = .returned (.tuple #[]) ∧ (∃ v, Bw w' B b v l) ∧ Below B w w' ∧ Lib.OthersKept 5 (some b) w w' := by
  obtain ⟨j, hj, hjs⟩ := Option.map_eq_some_iff.1 sizeBl
  rcases h with h | h
  · -- it was not written to yet: its own address is laid into it
    have hu := h.used (.pointer (some ⟨b, 0, none⟩))
    have F : Hid ((∃ v, Bw (w.setCell ⟨b, 0, none⟩ (.pointer (some ⟨b, 0, none⟩))) B b v l) ∧ Below B w (w.setCell ⟨b, 0, none⟩ (.pointer (some ⟨b, 0, none⟩))) ∧ Lib.OthersKept 5 (some b) w (w.setCell ⟨b, 0, none⟩ (.pointer (some ⟨b, 0, none⟩)))) := by
      obtain ⟨g0, v, g1, g2, g3⟩ := hu
      exact ⟨⟨v, g0, g1, g2, g3⟩, (Below.refl B w).setCell (p := ⟨b, 0, none⟩) h.1 _, (Lib.OthersKept.refl _ _ w).setCell ⟨b, 0, none⟩ rfl _⟩
    have c0 := h.cell0
    have z0 := h.frozen0
    have k1 := Lib.run_to_unsafe (P := Tryd.prog) w ⟨b, 0, none⟩ Tryd.underlying50 Tryd.underlying119 hj (by rw [hjs]; decide) h.shape (Nat.zero_lt_succ 1)
    have k2 := noEscape (.pointer (some ⟨b, 0, none⟩)) w
    have k3 := Lib.run_from_unsafe (P := Tryd.prog) w ⟨b, 0, none⟩ Tryd.underlying119 Tryd.underlying50 hj h.shape liesBl
    clear hu h hjs
    go_enter Tryd.func55, Tryd.ntmps55
    go_wp2
    go_end0
    exact ⟨rfl, F.out⟩
  · have F : Hid ((∃ v, Bw w B b v l) ∧ Below B w w ∧ Lib.OthersKept 5 (some b) w w) := by
      obtain ⟨g0, v, g1, g2, g3⟩ := h
      exact ⟨⟨v, g0, g1, g2, g3⟩, Below.refl _ _, Lib.OthersKept.refl _ _ _⟩
    have c0 := h.cell0
    have k1 := Lib.run_neq_ptr_same (P := Tryd.prog) w ⟨b, 0, none⟩ Tryd.underlying50 hj
    clear h hjs
    go_enter Tryd.func55, Tryd.ntmps55
    go_wp2
    go_end0
    exact ⟨rfl, F.out⟩
set_option maxHeartbeats 2000000 in
set_option maxRecDepth 100000 in
/-- Such a text is written to a builder that holds such bytes. -/
theorem bWrite (B b : Nat) (l ys : List Int) (w : World) (h : Bl w B b l) (hy : Byt ys) (hlen : l.length + ys.length ≤ 1000000) (hBw : B ≤ w.heap.size) :
    Calls Tryd.prog 18 #[.pointer (some ⟨b, 0, none⟩), .string (strOfNums ys)] w fun e w' => (∃ v, e = .returned v) ∧ Bl w' B b (l ++ ys) ∧ Below B w w' ∧ Lib.OthersKept 5 (some b) w w' := by
  obtain ⟨i0, hi, hz0, hz1, hz2⟩ := info_parts info5
  have HC := TW.hide (bCheck B b l w h)
  have HY := TW.hide hy
  have hsz : (vs l).length + (strOfNums ys).size ≤ 1000000 := by rw [vs_length, strOf_size]; omega
  have HE : Hid (vs l ++ Lib.strCells (strOfNums ys) = vs (l ++ ys)) := by show _ = _; rw [strCells_of ys hy, ← vs_append]
  clear h hy hlen
  generalize strOfNums ys = s at *
  go_enter Tryd.func18, Tryd.ntmps18
  go_wp2_with fail
  refine HC.out.mono ?_
  rintro e w1 ⟨rfl, ⟨v, hv⟩, hb1, hk1⟩
  have c1 : w1.cell? ⟨b, 1, none⟩ = some v := by simp [World.cell?, hv.cells]
  have hB1 : B ≤ w1.heap.size := Nat.le_trans hBw hb1.size
  have V := TW.hide hv
  have B1 := TW.hide hb1
  have K1 := TW.hide hk1
  clear hv hb1 hk1
  go_wp2_with (at_builtin; refine Lib.wpList_append_own_stringF _ rfl _ _ 24 9 rfl B 5 i0 Tryd.underlying24 Tryd.underlying9 hi hz0 hz1 hz2 v (vs l).length (vs l) rfl V.out.row s rfl ?c3 ?c4 hB1 ?_)
  case c3 => unfold maxLen; omega
  case c4 => omega
  intro v' w2 hown hgrow _
  rw [HE.out] at hown
  have hbl : b < w1.heap.size := (Array.getElem?_eq_some_iff.1 V.out.cells).1
  have n2 : w2.heap[b]? = some (.cells #[.pointer (some ⟨b, 0, none⟩), v] 52 (0, 0)) := by
    rw [hgrow.block b hbl (fun e => V.out.apart e.symm)]
    exact V.out.cells
  have d1 : w2.cell? ⟨b, 1, none⟩ = some v := by simp [World.cell?, n2]
  have z1 : w2.frozen? ⟨b, 1, none⟩ = false := by simp [World.frozen?, n2]
  have F : Hid (Bl (w2.setCell ⟨b, 1, none⟩ v') B b (l ++ ys) ∧ Below B w (w2.setCell ⟨b, 1, none⟩ v') ∧ Lib.OthersKept 5 (some b) w (w2.setCell ⟨b, 1, none⟩ v')) := by
    refine ⟨.inr (Lib.BuilderAtF.put V.out.base n2 (bs' := vs (l ++ ys)) ?_ (by decide)), ?_, (K1.out.grown hgrow (Lib.ownsRowF_kind V.out.row)).setCell ⟨b, 1, none⟩ rfl _⟩
    · have e : (vs (l ++ ys)).length = (vs l).length + s.size := by rw [← HE.out, List.length_append, Lib.strCells_length]
      rw [e]; exact hown
    · exact (B1.out.grown hgrow hB1 (fun k hk => (V.out.row.lt k hk).1)).setCell (p := ⟨b, 1, none⟩) V.out.base _
  obtain ⟨ao, n', cap, rfl⟩ : ∃ ao n' cap, v' = .slice ao n' cap := by
    rcases hown.2 with ⟨e, _⟩ | ⟨_, _, _, _, e, _⟩ <;> exact ⟨_, _, _, e⟩
  clear hown hgrow n2
  go_wp2
  go_ret2
  exact ⟨⟨_, rfl⟩, F.out⟩
/-- A new builder. -/
theorem bNew (w : World) : Bl (w.alloc (.cells #[.pointer none, .slice none 0 0] 52)) w.heap.size w.heap.size [] := by
  refine .inl ⟨Nat.le_refl _, .slice none 0 0, ?_, ⟨rfl, .inl ⟨rfl, rfl⟩⟩, by simp [Value.ownBlock]⟩
  show (w.heap.push _)[w.heap.size]? = _
  simp
/-- A builder is kept where all that was there is kept. -/
theorem Bl.below {w w' : World} {B b : Nat} {l : List Int} (h : Bl w B b l) (hb : Below w.heap.size w w') : Bl w' B b l := by
  have key : ∀ p, Lib.BuilderAtF 52 5 B b p (vs l) w → Lib.BuilderAtF 52 5 B b p (vs l) w' := by
    rintro p ⟨hB, v, hbk, hown, hne⟩
    refine ⟨hB, v, by rw [hb.block b (Array.getElem?_eq_some_iff.1 hbk).1]; exact hbk, ⟨hown.1, ?_⟩, hne⟩
    rcases hown.2 with h0 | ⟨g, cap, cur, fz, e, hg, hh, rest⟩
    · exact .inl h0
    · exact .inr ⟨g, cap, cur, fz, e, hg, by rw [hb.block g (Array.getElem?_eq_some_iff.1 hh).1]; exact hh, rest⟩
  exact h.imp (key _) (key _)
end LW
end Go.Proofs.YteakoajkmcbilabDoor
