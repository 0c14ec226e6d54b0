/-
  Ck5, Ck6 in one.
-/
import Derived.Test.YtlahcdbgggdldaaCkAe
import Derived.Test.YtlahcdbgggdldaaOrdere
namespace Go.Proofs.Ytlahcdbgggdldaa
open Go.RowKit
set_option linter.unusedVariables false
set_option linter.unusedSimpArgs false
namespace LW
open Mc
/-- Edges in memory, wherever they lie, with the room behind them. -/
def EgR (W : World) (a : Option Addr) (c : Nat) (es : List Eg2) : Prop := es.length ≤ c ∧ (es = [] ∨ ∃ b off, a = some ⟨b, off, none⟩ ∧ ∀ i, i < es.length → W.cell? ⟨b, off + i * 2, none⟩ = some (.int .i64 (es.getD i (0, 0)).1) ∧ W.cell? ⟨b, off + i * 2 + 1, none⟩ = some (.int .i64 (es.getD i (0, 0)).2))
theorem EgR.below {W W' : World} {a : Option Addr} {c : Nat} {es : List Eg2} (h : EgR W a c es) (hb : Below W.heap.size W W') : EgR W' a c es := by
 refine ⟨h.1, ?_⟩
 rcases h.2 with h1 | ⟨b, off, e, h1⟩
 ·exact .inl h1
 ·exact .inr ⟨b, off, e, fun i hi => ⟨keepC hb (h1 i hi).1, keepC hb (h1 i hi).2⟩⟩
theorem EgR.of {W : World} {B : Nat} {v : Value} {es : List Eg2} (h : W.ownsRow B 35 2 v es.length (edC es)) : ∃ a c, v = .slice a es.length c ∧ EgR W a c es := by
 by_cases h0 : es.length = 0
 ·obtain ⟨a, c, e⟩ := own_openE h
  exact ⟨a, c, e, by omega, .inl (List.eq_nil_of_length_eq_zero h0)⟩
 ·obtain ⟨g, cap, e, _, hN, _, hc⟩ := CI.of h (by omega)
  exact ⟨_, cap, e, hN, .inr ⟨g, 0, rfl, fun i hi => by rw [Nat.zero_add]; exact hc.get hN i hi⟩⟩
/-- The first one is gone by. -/
theorem EgR.tail {W : World} {b off c : Nat} {x : Eg2} {es : List Eg2} (h : EgR W (some ⟨b, off, none⟩) c (x :: es)) : EgR W (if c = 1 then some ⟨b, off, none⟩ else some ⟨b, off + 2, none⟩) (c - 1) es := by
 have hl := h.1
 simp only [List.length_cons] at hl
 refine ⟨by omega, ?_⟩
 by_cases h0 : es = []
 ·exact .inl h0
 ·have hp := List.length_pos_iff.2 h0
  rw [if_neg (by omega)]
  rcases h.2 with h1 | ⟨b', off', e, h1⟩
  ·cases h1
  ·injection e with e
   injection e with e1 e2
   subst e1 e2
   refine .inr ⟨b, off + 2, rfl, fun i hi => ?_⟩
   have := h1 (i + 1) (by simp; omega)
   rw [show off + (i + 1) * 2 = off + 2 + i * 2 by omega, List.getD_cons_succ] at this
   exact this
end LW
end Go.Proofs.Ytlahcdbgggdldaa
namespace Go.Proofs.Ytlahcdbgggdldaa
open Go Go.RowKit
set_option linter.unusedVariables false
set_option linter.unusedSimpArgs false
namespace LW
open Mc
/-- The clocks of the first k events; what groups have come to. -/
def cls (s : Syst) (l : List Ev) (f m k : Nat) : Nat → List Int := fun j => if j < k then clL s l f m j else []
/-- Rows that are ahead, by their names. -/
def HsR (v : Oc → Value) (cl ag : Nat → List Int) (hs : List Value) (rows : List (List Int)) : Prop := hs.length = rows.length ∧ ∀ i, i < rows.length → (∃ j, hs.getD i (.bool false) = v (Oc.cl j) ∧ rows.getD i [] = cl j) ∨ (∃ g, hs.getD i (.bool false) = v (Oc.ag g) ∧ rows.getD i [] = ag g)
theorem HsR.nil (v : Oc → Value) (cl ag : Nat → List Int) : HsR v cl ag [] [] := ⟨rfl, fun i hi => by simp at hi⟩
theorem getD_snoc {α : Type} (l : List α) (x d : α) (i : Nat) : (l ++ [x]).getD i d = if i < l.length then l.getD i d else if i = l.length then x else d := by
 rw [List.getD_eq_getElem?_getD]
 by_cases h : i < l.length
 ·rw [List.getElem?_append_left h, if_pos h, List.getD_eq_getElem?_getD]
 ·rw [if_neg h, List.getElem?_append_right (by omega)]
  by_cases h2 : i = l.length
  ·rw [if_pos h2, h2, Nat.sub_self]; rfl
  ·rw [if_neg h2, List.getElem?_eq_none (by simp; omega)]; rfl
theorem HsR.cl {v : Oc → Value} {cl ag : Nat → List Int} {hs : List Value} {rows : List (List Int)} (h : HsR v cl ag hs rows) (j : Nat) : HsR v cl ag (hs ++ [v (Oc.cl j)]) (rows ++ [cl j]) := by
 refine ⟨by simp [h.1], fun i hi => ?_⟩
 rw [getD_snoc, getD_snoc, h.1]
 simp only [List.length_append, List.length_cons, List.length_nil] at hi
 by_cases e : i < rows.length
 ·rw [if_pos e, if_pos e]; exact h.2 i e
 ·rw [if_neg e, if_neg e, if_pos (by omega), if_pos (by omega)]; exact .inl ⟨j, rfl, rfl⟩
theorem HsR.ag {v : Oc → Value} {cl ag : Nat → List Int} {hs : List Value} {rows : List (List Int)} (h : HsR v cl ag hs rows) (j : Nat) : HsR v cl ag (hs ++ [v (Oc.ag j)]) (rows ++ [ag j]) := by
 refine ⟨by simp [h.1], fun i hi => ?_⟩
 rw [getD_snoc, getD_snoc, h.1]
 simp only [List.length_append, List.length_cons, List.length_nil] at hi
 by_cases e : i < rows.length
 ·rw [if_pos e, if_pos e]; exact h.2 i e
 ·rw [if_neg e, if_neg e, if_pos (by omega), if_pos (by omega)]; exact .inr ⟨j, rfl, rfl⟩
theorem HsR.set {v : Oc → Value} {cl ag : Nat → List Int} {hs : List Value} {rows : List (List Int)} (h : HsR v cl ag hs rows) (u : Value) : HsR (vpc v Oc.ah u) cl ag hs rows := by
 refine ⟨h.1, fun i hi => ?_⟩
 rcases h.2 i hi with ⟨j, a, b⟩ | ⟨g, a, b⟩
 ·exact .inl ⟨j, by rw [vpc_other _ _ _ _ (by intro e; cases e)]; exact a, b⟩
 ·exact .inr ⟨g, by rw [vpc_other _ _ _ _ (by intro e; cases e)]; exact a, b⟩
/-- Rows that are ahead, in memory. -/
theorem CM.rr {o W : World} {G n : Nat} {cl ag : Nat → List Int} {hs : List Value} {v : Oc → Value} (h : CM o W G n cl ag hs v) {rows : List (List Int)} (hr : HsR v cl ag hs rows) : ∃ oa oc, v Oc.ah = .slice oa rows.length oc ∧ RR W oa rows := by
 have ho : W.ownsRow o.heap.size 23 1 (v Oc.ah) hs.length hs := h.fam.own Oc.ah
 obtain ⟨a, c, e⟩ := own_openE ho
 refine ⟨a, c, by rw [e, hr.1], ?_⟩
 by_cases h0 : rows = []
 ·exact .inl h0
 ·have hp := List.length_pos_iff.2 h0
  rcases ho.2 with ⟨_, h1⟩ | ⟨g, cap, cur, e2, hB, hh, hn, hm, hcs, ht⟩
  ·have := hr.1; omega
  ·rw [e] at e2
   injection e2 with e3 e4 e5
   refine .inr ⟨g, 0, e3, fun i hi => ?_⟩
   have hcell : W.cell? ⟨g, i, none⟩ = some (hs.getD i (.bool false)) := by
    have hi2 : i < hs.length := by rw [hr.1]; exact hi
    rw [cell_of_row W g i cur _ (0, 0) hh, ← Array.getElem?_toList]
    have h3 : (cur.toList.take (hs.length * 1))[i]? = cur.toList[i]? := by rw [List.getElem?_take, if_pos (by omega)]
    rw [← h3, ht, List.getD_eq_getElem?_getD, List.getElem?_eq_getElem hi2]
    rfl
   rw [Nat.zero_add, hcell]
   rcases hr.2 i hi with ⟨j, q1, q2⟩ | ⟨j, q1, q2⟩
   ·obtain ⟨a2, c2, e6, h4⟩ := h.clIs j
    exact ⟨a2, c2, by rw [q1, q2, e6], by rw [q2]; exact h4⟩
   ·obtain ⟨a2, c2, e6, h4⟩ := h.agIs j
    exact ⟨a2, c2, by rw [q1, q2, e6], by rw [q2]; exact h4⟩
/-- At first. -/
theorem CM.start {o W1 W2 : World} {G : Nat} {u1 u2 : Value} (hb1 : Below o.heap.size o W1) (h1 : W1.ownsRow o.heap.size 23 1 u1 0 []) (hb2 : Below W1.heap.size W1 W2) (h2 : W2.ownsRow W1.heap.size 23 1 u2 G (List.replicate G (.slice none 0 0))) : ∃ v, v Oc.li = u1 ∧ v Oc.ad = u2 ∧ CM o W2 G 0 (fun _ => []) (fun _ => []) [] v := by
 have h0 := Fam.none W1 o.heap.size (fun i => (fc 0 0 (fun _ => []) (fun _ => []) [] (fun _ => .slice none 0 0) i).ty) (fun _ => 1)
 have h3 : Fam W1 o.heap.size (upd _ Oc.li ⟨23, 1, u1, 0, []⟩) := ⟨fun i => by
  unfold upd
  split
  ·exact h1
  ·exact h0.own i, fun i j b hi hj => by
  unfold upd at hi hj
  split at hi
  ·rename_i e1
   split at hj
   ·rename_i e2; rw [e1, e2]
   ·cases hj
  ·cases hi⟩
 have h4 := h3.fresh (W' := W2) Oc.ad ⟨23, 1, u2, G, List.replicate G (.slice none 0 0)⟩ hb2 (show World.ownsRow _ _ _ _ _ _ _ from own_baseL h2 hb1.size) (fun b e => own_blkI h2 b e)
 refine ⟨vpc (vpc (fun _ => .slice none 0 0) Oc.li u1) Oc.ad u2, ?_, vpc_same _ _ _, ⟨hb1.trans (hb2.mono hb1.size), h4.congr (fun i => ?_)⟩⟩
 ·rw [vpc_other _ _ _ _ (by intro e; cases e), vpc_same]
 ·unfold upd
  rcases i with (_ | _ | _) | ⟨c, _ | _⟩
  ·simp [fc, vpc, rwI]
  ·rw [if_pos rfl]
   show Rw.mk _ _ (vpc _ Oc.ad u2 Oc.ad) _ (rwI G (fun c => vpc (vpc (fun _ => .slice none 0 0) Oc.li u1) Oc.ad u2 (Oc.ag c))) = _
   rw [vpc_same, rwI_congr G _ (fun _ => .slice none 0 0) (fun j _ => by rw [vpc_other _ _ _ _ (by intro e; cases e), vpc_other _ _ _ _ (by intro e; cases e)])]
   unfold rwI
   rw [List.map_const', List.length_range]
  ·simp [fc, vpc]
  ·simp [fc, vpc]
  ·simp [fc, vpc]
theorem slcinfo6 : (Try.prog.info? 23).map (fun i => (i.zero, i.size, i.bytes)) = some (some (.slice none 0 0), 1, 24) := by kernel_rfl
end LW
end Go.Proofs.Ytlahcdbgggdldaa
