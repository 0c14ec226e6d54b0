/-
  The document's machine in memory, owned: what set does.
-/
import Derived.Test.YtghpfhoajcgghaaRows13
namespace Go.Proofs.Ytghpfhoajcgghaa
open Go.RowKit
set_option linter.unusedVariables false
set_option linter.unusedSimpArgs false
namespace LW
open Mc
/-- The cells of the machine's world. -/
def wdC (s : Syst) (pa : Option Addr) (pc : Nat) (ra : Option Addr) (rc : Nat) (rv hv sv lv gv cv ev : Value) : Array Value := #[.slice pa s.progs.length pc, .slice ra s.rooms.length rc, .int .i64 s.groups, .int .i64 s.locks, .int .i64 s.cells, rv, hv, sv, lv, gv, cv, ev]
def qn (qs : List Value) (c : Nat) : Value := qs.getD c (.slice none 0 0)
/-- The rows that a machine owns. -/
structure WV where
  rv : Value
  hv : Value
  sv : Value
  lv : Value
  gv : Value
  cv : Value
  ev : Value
  qs : List Value
  gb : Option Nat
  gc : Array Value
/-- The machine in memory: o the world that it began in, g its block. -/
structure WM (o W : World) (g : Nat) (s : Syst) (pa : Option Addr) (pc : Nat) (ra : Option Addr) (rc : Nat) (t : St) (m : WV) : Prop where
  bl : Below o.heap.size o W
  sm : SM o s pa ra
  gB : o.heap.size ≤ g
  blk : W.heap[g]? = some (.cells (wdC s pa pc ra rc m.rv m.hv m.sv m.lv m.gv m.cv m.ev) 58 (0, 0))
  rns : W.ownsRow o.heap.size 86 11 m.rv t.rns.length (rnC t.rns)
  hld : W.ownsRow o.heap.size 24 1 m.hv t.held.length m.qs
  qus : ∀ c, c < t.held.length → Qu W (qn m.qs c) (t.held.getD c [])
  qB : ∀ c b, (qn m.qs c).ownBlock = some b → o.heap.size ≤ b
  sht : W.ownsRow o.heap.size 4 1 m.sv t.shut.length (t.shut.map Value.bool)
  lck : W.ownsRow o.heap.size 4 1 m.lv t.locked.length (t.locked.map Value.bool)
  grp : W.ownsRow o.heap.size 3 1 m.gv t.groups.length (t.groups.map (Value.int .i64))
  cel : W.ownsRow o.heap.size 3 1 m.cv t.cells.length (t.cells.map (Value.int .i64))
  evs : W.ownsRow o.heap.size 45 5 m.ev t.evs.length (evC t.evs)
  ab : ∀ b, m.sv.ownBlock = some b → m.lv.ownBlock ≠ some b
  ai : ∀ b, m.gv.ownBlock = some b → m.cv.ownBlock ≠ some b
  aq : ∀ c b, (qn m.qs c).ownBlock = some b → m.gv.ownBlock ≠ some b ∧ m.cv.ownBlock ≠ some b
  qq : ∀ c d b, c ≠ d → (qn m.qs c).ownBlock = some b → (qn m.qs d).ownBlock ≠ some b
  gst : ∀ p, m.gb = some p → W.heap[p]? = some (.cells m.gc 38 (0, 0))
theorem own_read1 {w : World} {B n : Nat} {t : TypeId} {v : Value} {α : Type} {f : α → Value} {l : List α} (d : α) (h : w.ownsRow B t 1 v n (l.map f)) (hn : l.length = n) : ∃ a c, v = .slice a n c ∧ (l = [] ∨ ∃ b, a = some ⟨b, 0, none⟩ ∧ ∀ k, k < l.length → w.cell? ⟨b, k, none⟩ = some (f (l.getD k d))) := by
  rcases h.2 with ⟨rfl, h0⟩ | ⟨g, cap, cur, rfl, hg, hh, hn', hm, hc, ht⟩
  · exact ⟨none, 0, by rw [h0], .inl (List.length_eq_zero_iff.1 (by omega))⟩
  · refine ⟨_, cap, rfl, .inr ⟨g, rfl, fun k hk => blk_cell hh ?_⟩⟩
    have h1 : (cur.toList.take (n * 1))[k]? = (l.map f)[k]? := by rw [ht]
    rw [List.getElem?_take, if_pos (by omega), List.getElem?_map, List.getElem?_eq_getElem hk] at h1
    rw [List.getD_eq_getElem?_getD, List.getElem?_eq_getElem hk]
    simpa using h1
/-- Such a machine can be read. -/
theorem WM.rd {o W : World} {g : Nat} {s : Syst} {pa : Option Addr} {pc : Nat} {ra : Option Addr} {rc : Nat} {t : St} {m : WV} (h : WM o W g s pa pc ra rc t m) (h1 : 1 ≤ t.rns.length) : RdM W g s t := by
  have hb := h.blk
  unfold wdC at hb
  have hcell : ∀ j u, (#[.slice pa s.progs.length pc, .slice ra s.rooms.length rc, .int .i64 s.groups, .int .i64 s.locks, .int .i64 s.cells, m.rv, m.hv, m.sv, m.lv, m.gv, m.cv, m.ev] : Array Value)[j]? = some u → W.cell? ⟨g, j, none⟩ = some u := fun j u hu => blk_cell hb hu
  refine ⟨⟨pa, pc, ra, rc, hcell 0 _ rfl, hcell 1 _ rfl, h.sm.below h.bl⟩, ?_, ?_, ?_, ?_, ?_, ?_⟩
  · rcases h.rns.2 with ⟨_, h0⟩ | ⟨b, cap, cur, e, hg, hh, hn, hm, hc, ht⟩
    · omega
    · refine ⟨b, cap, by rw [← e]; exact hcell 5 _ rfl, fun k hk j hj => blk_cell hh ?_⟩
      have h2 : (cur.toList.take (t.rns.length * 11))[k * 11 + j]? = some (rnV (Mc.rn t k) j) := by
        rw [ht]
        exact flC_get 11 rnV r0 t.rns k j hk hj
      rw [List.getElem?_take, if_pos (by omega)] at h2
      simpa using h2
  · rcases h.hld.2 with ⟨e, h0⟩ | ⟨b, cap, cur, e, hg, hh, hn, hm, hc, ht⟩
    · exact ⟨none, 0, by rw [h0, ← e]; exact hcell 6 _ rfl, .inl (List.length_eq_zero_iff.1 h0)⟩
    · refine ⟨_, cap, by rw [← e]; exact hcell 6 _ rfl, .inr ⟨b, rfl, fun k hk => ?_⟩⟩
      have hq := h.qus k hk
      have hcc : W.cell? ⟨b, k, none⟩ = some (qn m.qs k) := by
        refine blk_cell hh ?_
        have hql : m.qs.length = t.held.length := by have := h.hld.1; omega
        have h2 : (cur.toList.take (t.held.length * 1))[k]? = m.qs[k]? := by rw [ht]
        rw [List.getElem?_take, if_pos (by omega)] at h2
        unfold qn
        rw [List.getD_eq_getElem?_getD, List.getElem?_eq_getElem (by omega)]
        rw [List.getElem?_eq_getElem (by omega : k < m.qs.length)] at h2
        simpa using h2
      rcases hq with ⟨e2, e3⟩ | ⟨b2, off, cap2, cur2, e2, _⟩
      · exact ⟨none, 0, by rw [hcc, e2, e3]; rfl⟩
      · exact ⟨_, cap2, by rw [hcc, e2]⟩
  · obtain ⟨a, c, e, h2⟩ := own_read1 false h.sht rfl
    exact ⟨a, c, by rw [← e]; exact hcell 7 _ rfl, h2⟩
  · obtain ⟨a, c, e, h2⟩ := own_read1 false h.lck rfl
    exact ⟨a, c, by rw [← e]; exact hcell 8 _ rfl, h2⟩
  · obtain ⟨a, c, e, h2⟩ := own_read1 0 h.grp rfl
    exact ⟨a, c, by rw [← e]; exact hcell 9 _ rfl, h2⟩
  · rcases h.evs.2 with ⟨e, h0⟩ | ⟨b, cap, cur, e, _⟩
    · exact ⟨none, 0, by rw [h0, ← e]; exact hcell 11 _ rfl⟩
    · exact ⟨_, cap, by rw [← e]; exact hcell 11 _ rfl⟩
theorem own_setN {w : World} {B n s p o : Nat} {t t' : TypeId} {fr : Nat × Nat} {v u : Value} {xs : List Value} {cs : Array Value} (h : w.ownsRow B t s v n xs) (hp : w.heap[p]? = some (.cells cs t' fr)) (ht : t ≠ t') : (w.setCell ⟨p, o, none⟩ u).ownsRow B t s v n xs := by
  rcases h.2 with ⟨rfl, h0⟩ | ⟨g, cap, cur, rfl, hg, hh, hn, hm, hc, htk⟩
  · exact ⟨h.1, .inl ⟨rfl, h0⟩⟩
  · refine ⟨h.1, .inr ⟨g, cap, cur, rfl, hg, ?_, hn, hm, hc, htk⟩⟩
    rw [Below.heap_setCell _ _ _ g ?_]
    · exact hh
    · rintro rfl
      have := hh.symm.trans hp
      simp at this
      exact ht this.2.1
/-- Another row of the same kind, in another block. -/
theorem own_setB {w : World} {B n s p o : Nat} {t : TypeId} {v u : Value} {xs : List Value} (h : w.ownsRow B t s v n xs) (hp : v.ownBlock ≠ some p) : (w.setCell ⟨p, o, none⟩ u).ownsRow B t s v n xs := by
  rcases h.2 with ⟨rfl, h0⟩ | ⟨g, cap, cur, rfl, hg, hh, hn, hm, hc, htk⟩
  · exact ⟨h.1, .inl ⟨rfl, h0⟩⟩
  · refine ⟨h.1, .inr ⟨g, cap, cur, rfl, hg, ?_, hn, hm, hc, htk⟩⟩
    rw [Below.heap_setCell _ _ _ g ?_]
    · exact hh
    · rintro rfl
      exact hp (by simp [Value.ownBlock])
theorem Qu.setN {w : World} {p o : Nat} {t' : TypeId} {fr : Nat × Nat} {v u : Value} {xs : List Int} {cs : Array Value} (h : Qu w v xs) (hp : w.heap[p]? = some (.cells cs t' fr)) (ht : 3 ≠ t') : Qu (w.setCell ⟨p, o, none⟩ u) v xs := by
  rcases h with h | ⟨b, off, cap, cur, rfl, hh, hs, hl, hc⟩
  · exact .inl h
  · refine .inr ⟨b, off, cap, cur, rfl, ?_, hs, hl, hc⟩
    rw [Below.heap_setCell _ _ _ b ?_]
    · exact hh
    · rintro rfl
      have := hh.symm.trans hp
      simp at this
      exact ht this.2.1
theorem Qu.setB {w : World} {p o : Nat} {v u : Value} {xs : List Int} (h : Qu w v xs) (hp : v.ownBlock ≠ some p) : Qu (w.setCell ⟨p, o, none⟩ u) v xs :=
  h.keep (fun b hb => Below.heap_setCell _ _ _ b (by rintro rfl; exact hp hb))
theorem own_at {w : World} {B n s : Nat} {t : TypeId} {v : Value} {xs : List Value} (h : w.ownsRow B t s v n xs) (hn : 0 < n) : ∃ b cap cur, v = .slice (some ⟨b, 0, none⟩) n cap ∧ B ≤ b ∧ w.heap[b]? = some (.cells cur t (0, 0)) := by
  rcases h.2 with ⟨_, h0⟩ | ⟨g, cap, cur, rfl, hg, hh, _⟩
  · omega
  · exact ⟨g, cap, cur, rfl, hg, hh⟩
theorem blk_setN {w : World} {g p o : Nat} {t t' : TypeId} {fr fr' : Nat × Nat} {u : Value} {cs cs' : Array Value} (h : w.heap[g]? = some (.cells cs t fr)) (hp : w.heap[p]? = some (.cells cs' t' fr')) (ht : t ≠ t') : (w.setCell ⟨p, o, none⟩ u).heap[g]? = some (.cells cs t fr) := by
  rw [Below.heap_setCell _ _ _ g ?_]
  · exact h
  · rintro rfl
    have := h.symm.trans hp
    simp at this
    exact ht this.2.1
/-- One cell of the runners is set. -/
theorem WM.setRn {o W : World} {g : Nat} {s : Syst} {pa : Option Addr} {pc : Nat} {ra : Option Addr} {rc : Nat} {t : St} {m : WV} (h : WM o W g s pa pc ra rc t m) {b cap : Nat} (he : m.rv = .slice (some ⟨b, 0, none⟩) t.rns.length cap) (hn : 0 < t.rns.length) (rs : List Rn) (j : Nat) (u : Value) (hr : rnC rs = (rnC t.rns).set j u) (hl : rs.length = t.rns.length) : WM o (W.setCell ⟨b, j, none⟩ u) g s pa pc ra rc { t with rns := rs } m := by
  obtain ⟨b', cap', cur, e, hB, hh⟩ := own_at h.rns hn
  rw [he] at e
  injection e with e1 e2 e3
  injection e1 with e1
  injection e1 with e1
  subst e1 e3
  have hrow := h.rns
  rw [he] at hrow
  refine ⟨h.bl.setCell (p := ⟨b, j, none⟩) hB _, h.sm, h.gB, ?_, ?_, own_setN h.hld hh (by decide), fun c hc => (h.qus c hc).setN hh (by decide), h.qB, own_setN h.sht hh (by decide), own_setN h.lck hh (by decide), own_setN h.grp hh (by decide), own_setN h.cel hh (by decide), own_setN h.evs hh (by decide), h.ab, h.ai, h.aq, h.qq, fun p hp => blk_setN (h.gst p hp) hh (by decide)⟩
  · rw [Below.heap_setCell _ _ _ g ?_]
    · exact h.blk
    · rintro rfl
      have := hh.symm.trans h.blk
      simp at this
  · show World.ownsRow _ _ _ _ _ rs.length (rnC rs)
    rw [hl, hr, he]
    exact (hrow.stored j u).1
set_option maxRecDepth 100000 in
set_option maxHeartbeats 1000000 in
theorem rset {o : World} {g : Nat} {s : Syst} {pa : Option Addr} {pc : Nat} {ra : Option Addr} {rc : Nat} {t : St} {m : WV} (k : Nat) (r v : Int) (w : World) (h : WM o w g s pa pc ra rc t m) (hg : (Mc.rn t k).regs.length = 8) (hk : k < t.rns.length) (hr : 0 ≤ r ∧ r < 8) :
    Calls Try.prog 54 #[.pointer (some ⟨g, 0, none⟩), .int .i64 k, .int .i64 r, .int .i64 v] w fun e w' => e = .returned (.tuple #[]) ∧ WM o w' g s pa pc ra rc { t with rns := Mc.setR t k r v } m ∧ ∀ p, m.rv.ownBlock ≠ some p → w'.heap[p]? = w.heap[p]? := by
  obtain ⟨b, cap, cur, he, hB, hh⟩ := own_at h.rns (by omega)
  obtain ⟨rn', hrr⟩ : ∃ rn' : Nat, r = (rn' : Int) := ⟨r.toNat, by omega⟩
  subst hrr
  have HW : Hid (WM o (w.setCell ⟨b, k * 11 + (2 + rn'), none⟩ (.int .i64 v)) g s pa pc ra rc { t with rns := Mc.setR t k (rn' : Int) v } m) := h.setRn he (by omega) _ _ _ (by rw [rnC_setR t k _ v hk hr hg]; simp) (setR_len t k _ v)
  have HP : Hid (∀ p, m.rv.ownBlock ≠ some p → (w.setCell ⟨b, k * 11 + (2 + rn'), none⟩ (.int .i64 v)).heap[p]? = w.heap[p]?) := fun p hp => by
    rw [Below.heap_setCell _ _ _ p ?_]
    rintro rfl
    exact hp (by rw [he]; rfl)
  have c5 : w.cell? ⟨g, 5, none⟩ = some m.rv := blk_cell h.blk rfl
  rw [he] at c5
  obtain ⟨z, hz⟩ : ∃ z, w.cell? ⟨b, k * 11 + (2 + rn'), none⟩ = some z := by
    have hrow := h.rns
    rw [he] at hrow
    have h1 := hrow.1
    rw [hrow.cellAt _ (by omega)]
    exact ⟨_, List.getElem?_eq_getElem (by omega)⟩
  have hf : w.frozen? ⟨b, k * 11 + (2 + rn'), none⟩ = false := by simp [World.frozen?, hh]
  have hk1 : (k : Int) < (t.rns.length : Int) := by omega
  have hk0 : (0 : Int) ≤ (k : Int) := by omega
  have hr1 : (rn' : Int) < 8 := hr.2
  have hr0 : (0 : Int) ≤ (rn' : Int) := hr.1
  clear h hg hk hr hh he hB
  rw [show k * 11 + (2 + rn') = k * 11 + 2 + rn' by omega] at hz hf HW HP
  generalize t.rns.length = n at *
  go_enter Try.func54, Try.ntmps54
  go_wp2
  go_end0
  exact ⟨rfl, HW.out, HP.out⟩
end LW
end Go.Proofs.Ytghpfhoajcgghaa
