/-
  The machine in memory: what is read of each row, and an event that is being made.
-/
import Derived.Test.YtghpfhoajcgghaaWMem2
namespace Go.Proofs.Ytghpfhoajcgghaa
open Go.RowKit
set_option linter.unusedVariables false
set_option linter.unusedSimpArgs false
namespace LW
open Mc
/-- An event in the making, in a block of its own. -/
def EvB (W : World) (ge : Nat) (e : Ev) : Prop := W.heap[ge]? = some (.cells #[.int .i64 e.who, .int .i64 e.op, .int .i64 e.a, .int .i64 e.value, .bool e.shut] 45 (0, 0))
theorem EvB.below {w w' : World} {ge : Nat} {e : Ev} (h : EvB w ge e) (hb : Below w.heap.size w w') : EvB w' ge e := blk_keep h hb
/-- A field of an event in the making is set. -/
theorem WM.setE {o W : World} {g : Nat} {s : Syst} {pa : Option Addr} {pc : Nat} {ra : Option Addr} {rc : Nat} {t : St} {m : WV} (h : WM o W g s pa pc ra rc t m) {ge : Nat} {e : Ev} (hE : EvB W ge e) (hB : o.heap.size ≤ ge) (hn : m.ev.ownBlock ≠ some ge) (j : Nat) (u : Value) : WM o (W.setCell ⟨ge, j, none⟩ u) g s pa pc ra rc t m :=
  ⟨h.bl.setCell (p := ⟨ge, j, none⟩) hB _, h.sm, h.gB, blk_setN h.blk hE (by decide), own_setN h.rns hE (by decide), own_setN h.hld hE (by decide), fun c hc => (h.qus c hc).setN hE (by decide), h.qB, own_setN h.sht hE (by decide), own_setN h.lck hE (by decide), own_setN h.grp hE (by decide), own_setN h.cel hE (by decide), own_setB h.evs hn, h.ab, h.ai, h.aq, h.qq, fun p hp => blk_setN (h.gst p hp) hE (by decide)⟩
theorem EvB.setA {W : World} {ge : Nat} {e : Ev} (h : EvB W ge e) (x : Int) : EvB (W.setCell ⟨ge, 2, none⟩ (.int .i64 x)) ge { e with a := x } := blk_set (i := 2) (u := .int .i64 x) h
theorem EvB.setV {W : World} {ge : Nat} {e : Ev} (h : EvB W ge e) (x : Int) : EvB (W.setCell ⟨ge, 3, none⟩ (.int .i64 x)) ge { e with value := x } := blk_set (i := 3) (u := .int .i64 x) h
theorem EvB.setS {W : World} {ge : Nat} {e : Ev} (h : EvB W ge e) (x : Bool) : EvB (W.setCell ⟨ge, 4, none⟩ (.bool x)) ge { e with shut := x } := blk_set (i := 4) (u := .bool x) h
theorem EvB.cells {W : World} {ge : Nat} {e : Ev} (h : EvB W ge e) : W.cell? ⟨ge, 0, none⟩ = some (.int .i64 e.who) ∧ W.cell? ⟨ge, 1, none⟩ = some (.int .i64 e.op) ∧ W.cell? ⟨ge, 2, none⟩ = some (.int .i64 e.a) ∧ W.cell? ⟨ge, 3, none⟩ = some (.int .i64 e.value) ∧ W.cell? ⟨ge, 4, none⟩ = some (.bool e.shut) := cellsY5 h
theorem EvB.froz {W : World} {ge : Nat} {e : Ev} (h : EvB W ge e) (j : Nat) : W.frozen? ⟨ge, j, none⟩ = false := by
  unfold EvB at h
  simp [World.frozen?, h]
/-- Another block is set. -/
theorem EvB.setB {W : World} {ge : Nat} {e : Ev} (h : EvB W ge e) {p j : Nat} {u : Value} (hp : p ≠ ge) : EvB (W.setCell ⟨p, j, none⟩ u) ge e := by
  unfold EvB
  rw [Below.heap_setCell _ _ _ ge (Ne.symm hp)]
  exact h
theorem EvB.keep {w w' : World} {ge : Nat} {e : Ev} (h : EvB w ge e) (hk : w'.heap[ge]? = w.heap[ge]?) : EvB w' ge e := by
  unfold EvB
  rw [hk]
  exact h
theorem own_rd {w : World} {B n s : Nat} {t : TypeId} {v : Value} {xs : List Value} (h : w.ownsRow B t s v n xs) (hn : 0 < n) : ∃ b cap, v = .slice (some ⟨b, 0, none⟩) n cap ∧ B ≤ b ∧ (∃ cur, w.heap[b]? = some (.cells cur t (0, 0))) ∧ (∀ i, w.frozen? ⟨b, i, none⟩ = false) ∧ ∀ i u, xs[i]? = some u → w.cell? ⟨b, i, none⟩ = some u := by
  rcases h.2 with ⟨_, h0⟩ | ⟨g, cap, cur, rfl, hg, hh, hn', hm, hc, ht⟩
  · omega
  · refine ⟨g, cap, rfl, hg, ⟨cur, hh⟩, fun i => by simp [World.frozen?, hh], fun i u hu => ?_⟩
    rw [← ht, List.getElem?_take] at hu
    split at hu
    · exact blk_cell hh (by simpa using hu)
    · cases hu
section
variable {o W : World} {g : Nat} {s : Syst} {pa : Option Addr} {pc : Nat} {ra : Option Addr} {rc : Nat} {t : St} {m : WV}
theorem WM.c5 (h : WM o W g s pa pc ra rc t m) : W.cell? ⟨g, 5, none⟩ = some m.rv := blk_cell h.blk rfl
theorem WM.c6 (h : WM o W g s pa pc ra rc t m) : W.cell? ⟨g, 6, none⟩ = some m.hv := blk_cell h.blk rfl
theorem WM.c7 (h : WM o W g s pa pc ra rc t m) : W.cell? ⟨g, 7, none⟩ = some m.sv := blk_cell h.blk rfl
theorem WM.c8 (h : WM o W g s pa pc ra rc t m) : W.cell? ⟨g, 8, none⟩ = some m.lv := blk_cell h.blk rfl
theorem WM.c9 (h : WM o W g s pa pc ra rc t m) : W.cell? ⟨g, 9, none⟩ = some m.gv := blk_cell h.blk rfl
theorem WM.c10 (h : WM o W g s pa pc ra rc t m) : W.cell? ⟨g, 10, none⟩ = some m.cv := blk_cell h.blk rfl
theorem WM.c11 (h : WM o W g s pa pc ra rc t m) : W.cell? ⟨g, 11, none⟩ = some m.ev := blk_cell h.blk rfl
theorem WM.sh1 (h : WM o W g s pa pc ra rc t m) (c : Nat) (hc : c < t.shut.length) : ∃ b cap, m.sv = .slice (some ⟨b, 0, none⟩) t.shut.length cap ∧ o.heap.size ≤ b ∧ W.frozen? ⟨b, c, none⟩ = false ∧ W.cell? ⟨b, c, none⟩ = some (.bool (t.shut.getD c false)) := by
  obtain ⟨b, cap, e, hB, _, hf, hr⟩ := own_rd h.sht (by omega)
  exact ⟨b, cap, e, hB, hf c, hr c _ (by rw [List.getElem?_map, List.getD_eq_getElem?_getD, List.getElem?_eq_getElem hc]; rfl)⟩
theorem WM.lk1 (h : WM o W g s pa pc ra rc t m) (c : Nat) (hc : c < t.locked.length) : ∃ b cap, m.lv = .slice (some ⟨b, 0, none⟩) t.locked.length cap ∧ o.heap.size ≤ b ∧ W.frozen? ⟨b, c, none⟩ = false ∧ W.cell? ⟨b, c, none⟩ = some (.bool (t.locked.getD c false)) := by
  obtain ⟨b, cap, e, hB, _, hf, hr⟩ := own_rd h.lck (by omega)
  exact ⟨b, cap, e, hB, hf c, hr c _ (by rw [List.getElem?_map, List.getD_eq_getElem?_getD, List.getElem?_eq_getElem hc]; rfl)⟩
theorem WM.gr1 (h : WM o W g s pa pc ra rc t m) (c : Nat) (hc : c < t.groups.length) : ∃ b cap, m.gv = .slice (some ⟨b, 0, none⟩) t.groups.length cap ∧ o.heap.size ≤ b ∧ W.frozen? ⟨b, c, none⟩ = false ∧ W.cell? ⟨b, c, none⟩ = some (.int .i64 (t.groups.getD c 0)) := by
  obtain ⟨b, cap, e, hB, _, hf, hr⟩ := own_rd h.grp (by omega)
  exact ⟨b, cap, e, hB, hf c, hr c _ (by rw [List.getElem?_map, List.getD_eq_getElem?_getD, List.getElem?_eq_getElem hc]; rfl)⟩
theorem WM.ce1 (h : WM o W g s pa pc ra rc t m) (c : Nat) (hc : c < t.cells.length) : ∃ b cap, m.cv = .slice (some ⟨b, 0, none⟩) t.cells.length cap ∧ o.heap.size ≤ b ∧ W.frozen? ⟨b, c, none⟩ = false ∧ W.cell? ⟨b, c, none⟩ = some (.int .i64 (t.cells.getD c 0)) := by
  obtain ⟨b, cap, e, hB, _, hf, hr⟩ := own_rd h.cel (by omega)
  exact ⟨b, cap, e, hB, hf c, hr c _ (by rw [List.getElem?_map, List.getD_eq_getElem?_getD, List.getElem?_eq_getElem hc]; rfl)⟩
theorem WM.hd1 (h : WM o W g s pa pc ra rc t m) (c : Nat) (hc : c < t.held.length) : ∃ b cap, m.hv = .slice (some ⟨b, 0, none⟩) t.held.length cap ∧ o.heap.size ≤ b ∧ W.frozen? ⟨b, c, none⟩ = false ∧ W.cell? ⟨b, c, none⟩ = some (qn m.qs c) := by
  obtain ⟨b, cap, e, hB, _, hf, hr⟩ := own_rd h.hld (by omega)
  have := h.hld.1
  exact ⟨b, cap, e, hB, hf c, hr c _ (by unfold qn; rw [List.getD_eq_getElem?_getD, List.getElem?_eq_getElem (by omega)]; rfl)⟩
theorem WM.rn1 (h : WM o W g s pa pc ra rc t m) (k : Nat) (hk : k < t.rns.length) : ∃ b cap, m.rv = .slice (some ⟨b, 0, none⟩) t.rns.length cap ∧ o.heap.size ≤ b ∧ (∀ i, W.frozen? ⟨b, i, none⟩ = false) ∧ (∃ cur, W.heap[b]? = some (.cells cur 86 (0, 0))) ∧ ∀ j, j < 11 → W.cell? ⟨b, k * 11 + j, none⟩ = some (rnV (Mc.rn t k) j) := by
  obtain ⟨b, cap, e, hB, hh, hf, hr⟩ := own_rd h.rns (by omega)
  exact ⟨b, cap, e, hB, hf, hh, fun j hj => hr _ _ (flC_get 11 rnV r0 t.rns k j hk hj)⟩
theorem WM.reg1 (h : WM o W g s pa pc ra rc t m) (k : Nat) (hk : k < t.rns.length) (r : Nat) (hr : r < 8) : ∃ b cap, m.rv = .slice (some ⟨b, 0, none⟩) t.rns.length cap ∧ o.heap.size ≤ b ∧ W.cell? ⟨b, k * 11 + 2 + r, none⟩ = some (.int .i64 (reg t k (r : Int))) := by
  obtain ⟨b, cap, e, hB, hf, _, hr1⟩ := h.rn1 k hk
  refine ⟨b, cap, e, hB, ?_⟩
  have := hr1 (2 + r) (by omega)
  rw [← Nat.add_assoc] at this
  rw [this]
  unfold rnV
  rw [if_neg (by omega), if_neg (by omega), if_pos (by omega), show 2 + r - 2 = r by omega]
  rfl
end
end LW
end Go.Proofs.Ytghpfhoajcgghaa
