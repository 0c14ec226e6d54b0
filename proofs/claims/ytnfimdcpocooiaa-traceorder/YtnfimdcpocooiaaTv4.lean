/-
  The notes of a trace take an event.
-/
import Derived.Test.YtnfimdcpocooiaaTv3
import Derived.Test.YtnfimdcpocooiaaOrd2
namespace Go.Proofs.Ytnfimdcpocooiaa
open Go.RowKit
set_option linter.unusedVariables false
set_option linter.unusedSimpArgs false
namespace LW
open Mc
theorem inV_same (p : List Ev) (e : Ev) (c : Nat) (h1 : ¬ (e.op = 5 ∧ e.a = c)) (h2 : ¬ (e.op = 6 ∧ e.shut = false ∧ e.a = c)) : inV (p ++ [e]) c = inV p c := by
  unfold inV
  rw [Tr.snC_snoc, Tr.tkC_snoc, if_neg h1, if_neg h2]
  rfl
theorem clV_same (p : List Ev) (e : Ev) (c : Nat) (h1 : ¬ (e.op = 7 ∧ e.a = c)) : clV (p ++ [e]) c = clV p c := by
  unfold clV
  rw [Tr.clC_snoc]
  simp [h1]
theorem rnC_same (p : List Ev) (e : Ev) (h1 : ¬ (e.op = 14 ∧ e.value ≠ 0)) : Tr.rnC (p ++ [e]) = Tr.rnC p := by
  rw [Tr.rnC_snoc, if_neg h1]
  rfl
theorem NtM.idle {B g bm : Nat} {v1 v2 : Value} {s : Syst} {pa : Option Addr} {pc : Nat} {ra : Option Addr} {rc : Nat} {p : List Ev} {q : List Ev} {W : World} (e : Ev) (h : NtM B W g bm v1 v2 s pa pc ra rc p q) (h5 : e.op ≠ 5) (h6 : ¬ (e.op = 6 ∧ e.shut = false)) (h7 : e.op ≠ 7) (h14 : ¬ (e.op = 14 ∧ e.value ≠ 0)) : NtM B W g bm v1 v2 s pa pc ra rc (p ++ [e]) q := by
  refine ⟨?_, h.hg, ?_, ?_, h.mp, h.hm⟩
  · rw [rnC_same p e h14]; exact h.blk
  · rw [rwI_congr _ (inV (p ++ [e])) (inV p) (fun c _ => inV_same p e c (fun h => h5 h.1) (fun h => h6 ⟨h.1, h.2.1⟩))]; exact h.ins
  · rw [rwI_congr _ (clV (p ++ [e])) (clV p) (fun c _ => clV_same p e c (fun h => h7 h.1))]; exact h.cls
/-- What a cell's change keeps. -/
theorem NtM.setIn {B g bm : Nat} {v1 v2 : Value} {s : Syst} {pa : Option Addr} {pc : Nat} {ra : Option Addr} {rc : Nat} {p : List Ev} {q : List Ev} {W : World} (e : Ev) (h : NtM B W g bm v1 v2 s pa pc ra rc p q) (c b cap : Nat) (hv : v1 = .slice (some ⟨b, 0, none⟩) s.rooms.length cap) (hc : c < s.rooms.length) (x : Int) (hx : inV (p ++ [e]) c = .int .i64 x) (ho : e.op = 5 ∨ (e.op = 6 ∧ e.shut = false)) (ha : e.a = c) : NtM B (W.setCell ⟨b, c, none⟩ (.int .i64 x)) g bm v1 v2 s pa pc ra rc (p ++ [e]) q := by
  have h0 := h.ins
  rw [hv] at h0
  obtain ⟨_, cur, hh⟩ := row_is h0 rfl (by omega)
  refine ⟨?_, h.hg, ?_, ?_, ?_, h.hm⟩
  · rw [rnC_same p e (by omega), Below.heap_setCell _ _ _ g ?_]
    · exact h.blk
    · rintro rfl
      have := h.blk.symm.trans hh
      simp at this
  · have h1 := (h0.stored c (.int .i64 x)).1
    rw [rwI_set _ (inV p) (inV (p ++ [e])) c _ hx (fun j hj => inV_same p e j (fun h => hj (by omega)) (fun h => hj (by omega)))] at h1
    rw [hv]
    exact h1
  · rw [rwI_congr _ (clV (p ++ [e])) (clV p) (fun j _ => clV_same p e j (fun h => by omega))]
    exact own_setN h.cls hh (by decide)
  · refine h.mp.keep (Below.heap_setCell _ _ _ _ ?_)
    exact h.mp.ne hh
theorem NtM.setCl {B g bm : Nat} {v1 v2 : Value} {s : Syst} {pa : Option Addr} {pc : Nat} {ra : Option Addr} {rc : Nat} {p : List Ev} {q : List Ev} {W : World} (e : Ev) (h : NtM B W g bm v1 v2 s pa pc ra rc p q) (c b cap : Nat) (hv : v2 = .slice (some ⟨b, 0, none⟩) s.rooms.length cap) (hc : c < s.rooms.length) (ho : e.op = 7) (ha : e.a = c) : NtM B (W.setCell ⟨b, c, none⟩ (.bool true)) g bm v1 v2 s pa pc ra rc (p ++ [e]) q := by
  have h0 := h.cls
  rw [hv] at h0
  obtain ⟨_, cur, hh⟩ := row_is h0 rfl (by omega)
  refine ⟨?_, h.hg, ?_, ?_, ?_, h.hm⟩
  · rw [rnC_same p e (by omega), Below.heap_setCell _ _ _ g ?_]
    · exact h.blk
    · rintro rfl
      have := h.blk.symm.trans hh
      simp at this
  · rw [rwI_congr _ (inV (p ++ [e])) (inV p) (fun j _ => inV_same p e j (fun h => by omega) (fun h => by omega))]
    exact own_setN h.ins hh (by decide)
  · have h1 := (h0.stored c (.bool true)).1
    rw [rwI_set _ (clV p) (clV (p ++ [e])) c _ (by unfold clV; rw [Tr.clC_snoc]; simp [ho, ha]) (fun j hj => clV_same p e j (fun h => hj (by omega)))] at h1
    rw [hv]
    exact h1
  · refine h.mp.keep (Below.heap_setCell _ _ _ _ ?_)
    exact h.mp.ne hh
theorem NtM.setRn {B g bm : Nat} {v1 v2 : Value} {s : Syst} {pa : Option Addr} {pc : Nat} {ra : Option Addr} {rc : Nat} {p : List Ev} {q : List Ev} {W : World} (e : Ev) (h : NtM B W g bm v1 v2 s pa pc ra rc p q) (ho : e.op = 14) (hv : e.value ≠ 0) : NtM B (W.setCell ⟨g, 5, none⟩ (.int .i64 ((Tr.rnC p : Int) + 1))) g bm v1 v2 s pa pc ra rc (p ++ [e]) q := by
  refine ⟨?_, h.hg, ?_, ?_, ?_, h.hm⟩
  · have h1 := heap_setCell_same W g 5 _ _ (.int .i64 ((Tr.rnC p : Int) + 1)) h.blk
    rw [h1, Tr.rnC_snoc, if_pos ⟨ho, hv⟩]
    simp
  · rw [rwI_congr _ (inV (p ++ [e])) (inV p) (fun j _ => inV_same p e j (fun h => by omega) (fun h => by omega))]
    exact own_setN h.ins h.blk (by decide)
  · rw [rwI_congr _ (clV (p ++ [e])) (clV p) (fun j _ => clV_same p e j (fun h => by omega))]
    exact own_setN h.cls h.blk (by decide)
  · exact h.mp.keep (Below.heap_setCell _ _ _ _ (h.mp.ne h.blk))
/-- The map has turned, and nothing else. -/
theorem NtM.grown {B g bm : Nat} {v1 v2 : Value} {s : Syst} {pa : Option Addr} {pc : Nat} {ra : Option Addr} {rc : Nat} {p : List Ev} {q : List Ev} {w w' : World} (h : NtM B w g bm v1 v2 s pa pc ra rc p p) (hg : w.grownBy w' (some bm)) (hm : MpI w' bm q) : NtM B w' g bm v1 v2 s pa pc ra rc p q := by
  refine ⟨?_, h.hg, own_grownT h.ins hg ?_, own_grownT h.cls hg ?_, hm, h.hm⟩
  · rw [hg.block g (blk_lt h.blk) (fun e => h.mp.ne h.blk (by injection e with e; exact e.symm))]
    exact h.blk
  · intro k hk e
    injection e with e
    subst e
    rcases h.ins.2 with ⟨e1, _⟩ | ⟨b, cap, cur, e1, _, hh, _⟩
    · rw [e1] at hk; cases hk
    · rw [e1] at hk
      injection hk with hk
      exact h.mp.ne hh hk.symm
  · intro k hk e
    injection e with e
    subst e
    rcases h.cls.2 with ⟨e1, _⟩ | ⟨b, cap, cur, e1, _, hh, _⟩
    · rw [e1] at hk; cases hk
    · rw [e1] at hk
      injection hk with hk
      exact h.mp.ne hh hk.symm
theorem below_grown {B : Nat} {w w' : World} {row : Nat} (hg : w.grownBy w' (some row)) (hB : B ≤ row) (hs : B ≤ w.heap.size) : Below B w w' := ⟨hg.os, hg.tape, hg.output, hg.size, fun k hk => hg.block k (by omega) (fun e => by injection e with e; omega)⟩
end LW
end Go.Proofs.Ytnfimdcpocooiaa
