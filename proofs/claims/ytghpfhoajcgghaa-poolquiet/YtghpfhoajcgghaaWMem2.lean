/-
  The document's machine in memory: what is kept while other memory is made, and how each row is changed.
-/
import Derived.Test.YtghpfhoajcgghaaWMem
namespace Go.Proofs.Ytghpfhoajcgghaa
open Go.RowKit
set_option linter.unusedVariables false
set_option linter.unusedSimpArgs false
namespace LW
open Mc
theorem WM.below {o W W' : World} {g : Nat} {s : Syst} {pa : Option Addr} {pc : Nat} {ra : Option Addr} {rc : Nat} {t : St} {m : WV} (h : WM o W g s pa pc ra rc t m) (hb : Below W.heap.size W W') : WM o W' g s pa pc ra rc t m :=
  ⟨h.bl.trans (hb.mono h.bl.size), h.sm, h.gB, blk_keep h.blk hb, own_belowI h.rns hb, own_belowI h.hld hb, fun c hc => (h.qus c hc).below hb, h.qB, own_belowI h.sht hb, own_belowI h.lck hb, own_belowI h.grp hb, own_belowI h.cel hb, own_belowI h.evs hb, h.ab, h.ai, h.aq, h.qq, fun p hp => blk_keep (h.gst p hp) hb⟩
theorem row_is {w : World} {B n s b cap : Nat} {t : TypeId} {v : Value} {xs : List Value} (h : w.ownsRow B t s v n xs) (he : v = .slice (some ⟨b, 0, none⟩) n cap) (hn : 0 < n) : B ≤ b ∧ ∃ cur, w.heap[b]? = some (.cells cur t (0, 0)) := by
  obtain ⟨b', cap', cur, e, hB, hh⟩ := own_at h hn
  rw [he] at e
  injection e with e1 e2 e3
  injection e1 with e1
  injection e1 with e1
  subst e1
  exact ⟨hB, cur, hh⟩
/-- A channel is closed (or not). -/
theorem WM.setSh {o W : World} {g : Nat} {s : Syst} {pa : Option Addr} {pc : Nat} {ra : Option Addr} {rc : Nat} {t : St} {m : WV} (h : WM o W g s pa pc ra rc t m) {b cap : Nat} (he : m.sv = .slice (some ⟨b, 0, none⟩) t.shut.length cap) (hn : 0 < t.shut.length) (c : Nat) (x : Bool) : WM o (W.setCell ⟨b, c, none⟩ (.bool x)) g s pa pc ra rc { t with shut := t.shut.set c x } m := by
  obtain ⟨hB, cur, hh⟩ := row_is h.sht he hn
  have hrow := h.sht
  rw [he] at hrow
  refine ⟨h.bl.setCell (p := ⟨b, c, none⟩) hB _, h.sm, h.gB, blk_setN h.blk hh (by decide), own_setN h.rns hh (by decide), own_setN h.hld hh (by decide), fun c hc => (h.qus c hc).setN hh (by decide), h.qB, ?_, own_setB h.lck (h.ab b (by rw [he]; simp [Value.ownBlock])), own_setN h.grp hh (by decide), own_setN h.cel hh (by decide), own_setN h.evs hh (by decide), h.ab, h.ai, h.aq, h.qq, fun p hp => blk_setN (h.gst p hp) hh (by decide)⟩
  show World.ownsRow _ _ _ _ _ (t.shut.set c x).length _
  rw [List.length_set, he, List.map_set]
  exact (hrow.stored c _).1
/-- A lock is taken or given back. -/
theorem WM.setLk {o W : World} {g : Nat} {s : Syst} {pa : Option Addr} {pc : Nat} {ra : Option Addr} {rc : Nat} {t : St} {m : WV} (h : WM o W g s pa pc ra rc t m) {b cap : Nat} (he : m.lv = .slice (some ⟨b, 0, none⟩) t.locked.length cap) (hn : 0 < t.locked.length) (c : Nat) (x : Bool) : WM o (W.setCell ⟨b, c, none⟩ (.bool x)) g s pa pc ra rc { t with locked := t.locked.set c x } m := by
  obtain ⟨hB, cur, hh⟩ := row_is h.lck he hn
  have hrow := h.lck
  rw [he] at hrow
  have hne : m.sv.ownBlock ≠ some b := fun e => h.ab b e (by rw [he]; simp [Value.ownBlock])
  refine ⟨h.bl.setCell (p := ⟨b, c, none⟩) hB _, h.sm, h.gB, blk_setN h.blk hh (by decide), own_setN h.rns hh (by decide), own_setN h.hld hh (by decide), fun c hc => (h.qus c hc).setN hh (by decide), h.qB, own_setB h.sht hne, ?_, own_setN h.grp hh (by decide), own_setN h.cel hh (by decide), own_setN h.evs hh (by decide), h.ab, h.ai, h.aq, h.qq, fun p hp => blk_setN (h.gst p hp) hh (by decide)⟩
  show World.ownsRow _ _ _ _ _ (t.locked.set c x).length _
  rw [List.length_set, he, List.map_set]
  exact (hrow.stored c _).1
/-- A group is another number. -/
theorem WM.setGr {o W : World} {g : Nat} {s : Syst} {pa : Option Addr} {pc : Nat} {ra : Option Addr} {rc : Nat} {t : St} {m : WV} (h : WM o W g s pa pc ra rc t m) {b cap : Nat} (he : m.gv = .slice (some ⟨b, 0, none⟩) t.groups.length cap) (hn : 0 < t.groups.length) (c : Nat) (x : Int) : WM o (W.setCell ⟨b, c, none⟩ (.int .i64 x)) g s pa pc ra rc { t with groups := t.groups.set c x } m := by
  obtain ⟨hB, cur, hh⟩ := row_is h.grp he hn
  have hrow := h.grp
  rw [he] at hrow
  have hgb : m.gv.ownBlock = some b := by rw [he]; simp [Value.ownBlock]
  refine ⟨h.bl.setCell (p := ⟨b, c, none⟩) hB _, h.sm, h.gB, blk_setN h.blk hh (by decide), own_setN h.rns hh (by decide), own_setN h.hld hh (by decide), fun d hd => (h.qus d hd).setB (fun e => (h.aq d b e).1 hgb), h.qB, own_setN h.sht hh (by decide), own_setN h.lck hh (by decide), ?_, own_setB h.cel (h.ai b hgb), own_setN h.evs hh (by decide), h.ab, h.ai, h.aq, h.qq, fun p hp => blk_setN (h.gst p hp) hh (by decide)⟩
  show World.ownsRow _ _ _ _ _ (t.groups.set c x).length _
  rw [List.length_set, he, List.map_set]
  exact (hrow.stored c _).1
/-- A cell is another number. -/
theorem WM.setCe {o W : World} {g : Nat} {s : Syst} {pa : Option Addr} {pc : Nat} {ra : Option Addr} {rc : Nat} {t : St} {m : WV} (h : WM o W g s pa pc ra rc t m) {b cap : Nat} (he : m.cv = .slice (some ⟨b, 0, none⟩) t.cells.length cap) (hn : 0 < t.cells.length) (c : Nat) (x : Int) : WM o (W.setCell ⟨b, c, none⟩ (.int .i64 x)) g s pa pc ra rc { t with cells := t.cells.set c x } m := by
  obtain ⟨hB, cur, hh⟩ := row_is h.cel he hn
  have hrow := h.cel
  rw [he] at hrow
  have hcb : m.cv.ownBlock = some b := by rw [he]; simp [Value.ownBlock]
  refine ⟨h.bl.setCell (p := ⟨b, c, none⟩) hB _, h.sm, h.gB, blk_setN h.blk hh (by decide), own_setN h.rns hh (by decide), own_setN h.hld hh (by decide), fun d hd => (h.qus d hd).setB (fun e => (h.aq d b e).2 hcb), h.qB, own_setN h.sht hh (by decide), own_setN h.lck hh (by decide), own_setB h.grp (fun e => h.ai b e hcb), ?_, own_setN h.evs hh (by decide), h.ab, h.ai, h.aq, h.qq, fun p hp => blk_setN (h.gst p hp) hh (by decide)⟩
  show World.ownsRow _ _ _ _ _ (t.cells.set c x).length _
  rw [List.length_set, he, List.map_set]
  exact (hrow.stored c _).1
theorem own_grownT {w w' : World} {row : Option Nat} {B n s : Nat} {t : TypeId} {v : Value} {xs : List Value} (h : w.ownsRow B t s v n xs) (hg : w.grownBy w' row) (hne : ∀ k, v.ownBlock = some k → row ≠ some k) : w'.ownsRow B t s v n xs := by
  rcases h.2 with ⟨rfl, h0⟩ | ⟨g, cap, cur, rfl, hg', hh, hn, hm, hc, ht⟩
  · exact ⟨h.1, .inl ⟨rfl, h0⟩⟩
  · exact ⟨h.1, .inr ⟨g, cap, cur, rfl, hg', by rw [hg.block g (blk_lt hh) (Ne.symm (hne g (by simp [Value.ownBlock])))]; exact hh, hn, hm, hc, ht⟩⟩
/-- Rows of unlike elements lie in unlike blocks. -/
theorem own_neT {w : World} {B B' n n' s s' : Nat} {t t' : TypeId} {v v' : Value} {xs xs' : List Value} (h : w.ownsRow B t s v n xs) (h' : w.ownsRow B' t' s' v' n' xs') (ht : t ≠ t') : ∀ k, v.ownBlock = some k → v'.ownBlock ≠ some k := by
  intro k hk hk'
  rcases h.2 with ⟨rfl, _⟩ | ⟨g, cap, cur, rfl, _, hh, _⟩
  · simp [Value.ownBlock] at hk
  rcases h'.2 with ⟨rfl, _⟩ | ⟨g', cap', cur', rfl, _, hh', _⟩
  · simp [Value.ownBlock] at hk'
  simp [Value.ownBlock] at hk hk'
  subst hk hk'
  have := hh.symm.trans hh'
  simp at this
  exact ht this.2
theorem own_neB {w : World} {B n s g : Nat} {t t' : TypeId} {fr : Nat × Nat} {v : Value} {xs : List Value} {cs : Array Value} (h : w.ownsRow B t s v n xs) (hg : w.heap[g]? = some (.cells cs t' fr)) (ht : t ≠ t') : v.ownBlock ≠ some g := by
  intro hk
  rcases h.2 with ⟨rfl, _⟩ | ⟨g', cap, cur, rfl, _, hh, _⟩
  · simp [Value.ownBlock] at hk
  · simp [Value.ownBlock] at hk
    subst hk
    have := hh.symm.trans hg
    simp at this
    exact ht this.2.1
theorem Qu.neT {w : World} {B n s : Nat} {t' : TypeId} {v v' : Value} {xs : List Int} {xs' : List Value} (h : Qu w v xs) (h' : w.ownsRow B t' s v' n xs') (ht : 3 ≠ t') : ∀ k, v.ownBlock = some k → v'.ownBlock ≠ some k := by
  intro k hk
  rcases h with ⟨rfl, _⟩ | ⟨b, off, cap, cur, rfl, hh, _⟩
  · simp [Value.ownBlock] at hk
  · simp [Value.ownBlock] at hk
    subst hk
    exact own_neB h' hh (Ne.symm ht)
/-- An event more. -/
theorem WM.addEv {o W W' : World} {g : Nat} {s : Syst} {pa : Option Addr} {pc : Nat} {ra : Option Addr} {rc : Nat} {t : St} {m : WV} (h : WM o W g s pa pc ra rc t m) (e : Ev) (v' : Value) (ho : W'.ownsRow o.heap.size 45 5 v' (t.evs.length + 1) (evC t.evs ++ evC [e])) (hg : W.grownBy W' m.ev.ownBlock) : WM o (W'.setCell ⟨g, 11, none⟩ v') g s pa pc ra rc { t with evs := t.evs ++ [e] } { m with ev := v' } := by
  have hgk : W'.heap[g]? = some (.cells (wdC s pa pc ra rc m.rv m.hv m.sv m.lv m.gv m.cv m.ev) 58 (0, 0)) := by
    rw [hg.block g (blk_lt h.blk) (fun e => own_neB h.evs h.blk (by decide) e.symm)]
    exact h.blk
  have kp : ∀ {n s' : Nat} {ty : TypeId} {v : Value} {xs : List Value}, W.ownsRow o.heap.size ty s' v n xs → ty ≠ 45 → ty ≠ 58 → (W'.setCell ⟨g, 11, none⟩ v').ownsRow o.heap.size ty s' v n xs := fun h1 h2 h3 => own_setN (own_grownT h1 hg (own_neT h1 h.evs h2)) hgk h3
  refine ⟨(h.bl.grown hg (by have := h.bl.size; omega) (fun k hk => own_blkI h.evs k hk)).setCell (p := ⟨g, 11, none⟩) h.gB _, h.sm, h.gB, ?_, kp h.rns (by decide) (by decide), kp h.hld (by decide) (by decide), fun c hc => ?_, h.qB, kp h.sht (by decide) (by decide), kp h.lck (by decide) (by decide), kp h.grp (by decide) (by decide), kp h.cel (by decide) (by decide), ?_, h.ab, h.ai, h.aq, h.qq, fun p hp => blk_setN (by rw [hg.block p (blk_lt (h.gst p hp)) (fun e => own_neB h.evs (h.gst p hp) (by decide) e.symm)]; exact h.gst p hp) hgk (by decide)⟩
  · exact blk_set (i := 11) (u := v') hgk
  · refine ((h.qus c hc).keep (fun b hb => ?_)).setN hgk (by decide)
    have hlt : b < W.heap.size := by
      rcases h.qus c hc with ⟨e1, _⟩ | ⟨b', off, cap, cur, e1, hh, _⟩
      · rw [e1] at hb; simp [Value.ownBlock] at hb
      · rw [e1] at hb
        simp [Value.ownBlock] at hb
        subst hb
        exact blk_lt hh
    exact hg.block b hlt (fun e => (h.qus c hc).neT h.evs (by decide) b hb e.symm)
  · show World.ownsRow _ _ _ _ _ (t.evs ++ [e]).length (evC (t.evs ++ [e]))
    rw [List.length_append, evC, flC_append]
    exact own_setN ho hgk (by decide)
/-- A runner more. -/
theorem WM.addRn {o W W' : World} {g : Nat} {s : Syst} {pa : Option Addr} {pc : Nat} {ra : Option Addr} {rc : Nat} {t : St} {m : WV} (h : WM o W g s pa pc ra rc t m) (r : Rn) (v' : Value) (ho : W'.ownsRow o.heap.size 86 11 v' (t.rns.length + 1) (rnC t.rns ++ rnC [r])) (hg : W.grownBy W' m.rv.ownBlock) : WM o (W'.setCell ⟨g, 5, none⟩ v') g s pa pc ra rc { t with rns := t.rns ++ [r] } { m with rv := v' } := by
  have hgk : W'.heap[g]? = some (.cells (wdC s pa pc ra rc m.rv m.hv m.sv m.lv m.gv m.cv m.ev) 58 (0, 0)) := by
    rw [hg.block g (blk_lt h.blk) (fun e => own_neB h.rns h.blk (by decide) e.symm)]
    exact h.blk
  have kp : ∀ {n s' : Nat} {ty : TypeId} {v : Value} {xs : List Value}, W.ownsRow o.heap.size ty s' v n xs → ty ≠ 86 → ty ≠ 58 → (W'.setCell ⟨g, 5, none⟩ v').ownsRow o.heap.size ty s' v n xs := fun h1 h2 h3 => own_setN (own_grownT h1 hg (own_neT h1 h.rns h2)) hgk h3
  refine ⟨(h.bl.grown hg (by have := h.bl.size; omega) (fun k hk => own_blkI h.rns k hk)).setCell (p := ⟨g, 5, none⟩) h.gB _, h.sm, h.gB, ?_, ?_, kp h.hld (by decide) (by decide), fun c hc => ?_, h.qB, kp h.sht (by decide) (by decide), kp h.lck (by decide) (by decide), kp h.grp (by decide) (by decide), kp h.cel (by decide) (by decide), kp h.evs (by decide) (by decide), h.ab, h.ai, h.aq, h.qq, fun p hp => blk_setN (by rw [hg.block p (blk_lt (h.gst p hp)) (fun e => own_neB h.rns (h.gst p hp) (by decide) e.symm)]; exact h.gst p hp) hgk (by decide)⟩
  · exact blk_set (i := 5) (u := v') hgk
  · show World.ownsRow _ _ _ _ _ (t.rns ++ [r]).length (rnC (t.rns ++ [r]))
    rw [List.length_append, rnC, flC_append]
    exact own_setN ho hgk (by decide)
  · refine ((h.qus c hc).keep (fun b hb => ?_)).setN hgk (by decide)
    have hlt : b < W.heap.size := by
      rcases h.qus c hc with ⟨e1, _⟩ | ⟨b', off, cap, cur, e1, hh, _⟩
      · rw [e1] at hb; simp [Value.ownBlock] at hb
      · rw [e1] at hb
        simp [Value.ownBlock] at hb
        subst hb
        exact blk_lt hh
    exact hg.block b hlt (fun e => (h.qus c hc).neT h.rns (by decide) b hb e.symm)
theorem own_lt {w : World} {B n s : Nat} {t : TypeId} {v : Value} {xs : List Value} (h : w.ownsRow B t s v n xs) : ∀ b, v.ownBlock = some b → b < w.heap.size := by
  intro b hb
  rcases h.2 with ⟨rfl, _⟩ | ⟨g, cap, cur, rfl, _, hh, _⟩
  · simp [Value.ownBlock] at hb
  · simp [Value.ownBlock] at hb
    subst hb
    exact blk_lt hh
theorem Qu.lt {w : World} {v : Value} {xs : List Int} (h : Qu w v xs) : ∀ b, v.ownBlock = some b → b < w.heap.size := by
  intro b hb
  rcases h with ⟨rfl, _⟩ | ⟨b', off, cap, cur, rfl, hh, _⟩
  · simp [Value.ownBlock] at hb
  · simp [Value.ownBlock] at hb
    subst hb
    exact blk_lt hh
theorem own_keepK {w w' : World} {B n s : Nat} {t : TypeId} {v : Value} {xs : List Value} (h : w.ownsRow B t s v n xs) (hk : ∀ b, v.ownBlock = some b → w'.heap[b]? = w.heap[b]?) : w'.ownsRow B t s v n xs := by
  rcases h.2 with ⟨rfl, h0⟩ | ⟨g, cap, cur, rfl, hg, hh, hn, hm, hc, ht⟩
  · exact ⟨h.1, .inl ⟨rfl, h0⟩⟩
  · exact ⟨h.1, .inr ⟨g, cap, cur, rfl, hg, by rw [hk g (by simp [Value.ownBlock])]; exact hh, hn, hm, hc, ht⟩⟩
theorem qn_set (qs : List Value) (c d : Nat) (v : Value) (hc : c < qs.length) : qn (qs.set c v) d = if c = d then v else qn qs d := by
  unfold qn
  rw [getD_set]
  by_cases h : c = d
  · rw [if_pos ⟨h, hc⟩, if_pos h]
  · rw [if_neg (fun hh => h hh.1), if_neg h]
theorem Qu.nB {w : World} {v : Value} {xs : List Int} {g : Nat} {cs : Array Value} {t' : TypeId} {fr : Nat × Nat} (h : Qu w v xs) (hg : w.heap[g]? = some (.cells cs t' fr)) (ht : 3 ≠ t') : v.ownBlock ≠ some g := by
  intro hk
  rcases h with ⟨rfl, _⟩ | ⟨b, off, cap, cur, rfl, hh, _⟩
  · simp [Value.ownBlock] at hk
  · simp [Value.ownBlock] at hk
    subst hk
    have := hh.symm.trans hg
    simp at this
    exact ht this.2.1
/-- A queue of the machine is another: what it was, longer or shorter, in its own block or in a new one. -/
theorem WM.putQ {o W W1 : World} {g : Nat} {s : Syst} {pa : Option Addr} {pc : Nat} {ra : Option Addr} {rc : Nat} {t : St} {m : WV} (h : WM o W g s pa pc ra rc t m) {hb cap : Nat} (he : m.hv = .slice (some ⟨hb, 0, none⟩) t.held.length cap) (c : Nat) (hc : c < t.held.length) (l : List Int) (v' : Value) (hq : Qu W1 v' l) (hk : ∀ b, b < W.heap.size → (qn m.qs c).ownBlock ≠ some b → W1.heap[b]? = W.heap[b]?) (hv : v'.ownBlock = (qn m.qs c).ownBlock ∨ ∃ b, v'.ownBlock = some b ∧ W.heap.size ≤ b) (hbl : Below o.heap.size o W1) : WM o (W1.setCell ⟨hb, c, none⟩ v') g s pa pc ra rc { t with held := t.held.set c l } { m with qs := m.qs.set c v' } := by
  have hql : m.qs.length = t.held.length := by have := h.hld.1; omega
  obtain ⟨hB, cur, hh⟩ := row_is h.hld he (by omega)
  have hQ := h.qus c hc
  have hqh : (qn m.qs c).ownBlock ≠ some hb := fun e => hQ.neT h.hld (by decide) hb e (by rw [he]; simp [Value.ownBlock])
  have hh1 : W1.heap[hb]? = some (.cells cur 24 (0, 0)) := by rw [hk hb (blk_lt hh) hqh]; exact hh
  have kp : ∀ {n s' : Nat} {ty : TypeId} {v : Value} {xs : List Value}, W.ownsRow o.heap.size ty s' v n xs → (∀ b, v.ownBlock = some b → (qn m.qs c).ownBlock ≠ some b) → W1.ownsRow o.heap.size ty s' v n xs := fun h1 h2 => own_keepK h1 (fun b hb => hk b (own_lt h1 b hb) (h2 b hb))
  have kt : ∀ {n s' : Nat} {ty : TypeId} {v : Value} {xs : List Value}, W.ownsRow o.heap.size ty s' v n xs → 3 ≠ ty → ty ≠ 24 → (W1.setCell ⟨hb, c, none⟩ v').ownsRow o.heap.size ty s' v n xs := fun h1 h2 h3 => own_setN (kp h1 (fun b hb e => hQ.neT h1 h2 b e hb)) hh1 h3
  have hnew : ∀ b, v'.ownBlock = some b → (∀ (v : Value), (∀ x, v.ownBlock = some x → x < W.heap.size) → (∀ x, (qn m.qs c).ownBlock = some x → v.ownBlock ≠ some x) → v.ownBlock ≠ some b) := fun b hb v h1 h2 e => by
    rcases hv with h3 | ⟨b', h3, h4⟩
    · rw [h3] at hb; exact h2 b hb e
    · rw [h3] at hb
      have : b' = b := by simpa using hb
      have := h1 b e
      omega
  have hlt : ∀ d, ∀ x, (qn m.qs d).ownBlock = some x → x < W.heap.size := fun d x hx => by
    by_cases hd : d < t.held.length
    · exact (h.qus d hd).lt x hx
    · unfold qn at hx
      rw [List.getD_eq_getElem?_getD, List.getElem?_eq_none (by omega)] at hx
      simp [Value.ownBlock] at hx
  refine ⟨hbl.setCell (p := ⟨hb, c, none⟩) hB _, h.sm, h.gB, ?_, kt h.rns (by decide) (by decide), ?_, fun d hd => ?_, fun d b hd => ?_, kt h.sht (by decide) (by decide), kt h.lck (by decide) (by decide), own_setN (kp h.grp (fun b hb e => (h.aq c b e).1 hb)) hh1 (by decide), own_setN (kp h.cel (fun b hb e => (h.aq c b e).2 hb)) hh1 (by decide), kt h.evs (by decide) (by decide), h.ab, h.ai, fun d b hd => ?_, fun d e b hde hd => ?_, fun p hp => blk_setN (by rw [hk p (blk_lt (h.gst p hp)) (hQ.nB (h.gst p hp) (by decide))]; exact h.gst p hp) hh1 (by decide)⟩
  · have hgq : (qn m.qs c).ownBlock ≠ some g := fun e => by
      rcases hQ with ⟨e1, _⟩ | ⟨b', off, cap', cur', e1, hh', _⟩
      · rw [e1] at e; simp [Value.ownBlock] at e
      · rw [e1] at e
        simp [Value.ownBlock] at e
        subst e
        have := hh'.symm.trans h.blk
        simp at this
    exact blk_setN (by rw [hk g (blk_lt h.blk) hgq]; exact h.blk) hh1 (by decide)
  · show World.ownsRow _ _ _ _ _ (t.held.set c l).length _
    rw [List.length_set]
    have h1 := kp h.hld (fun b hb e => hQ.neT h.hld (by decide) b e hb)
    show World.ownsRow _ _ _ _ m.hv _ _
    rw [he] at h1 ⊢
    exact (h1.stored c v').1
  · rw [List.length_set] at hd
    show Qu _ (qn (m.qs.set c v') d) ((t.held.set c l).getD d [])
    rw [qn_set _ _ _ _ (by omega), getD_set]
    by_cases hcd : c = d
    · rw [if_pos hcd, if_pos ⟨hcd, hc⟩]
      exact hq.setN hh1 (by decide)
    · rw [if_neg hcd, if_neg (fun hx => hcd hx.1)]
      exact ((h.qus d hd).keep (fun b hb => hk b ((h.qus d hd).lt b hb) (fun e => h.qq c d b hcd e hb))).setN hh1 (by decide)
  · change (qn (m.qs.set c v') d).ownBlock = some b at hd
    rw [qn_set _ _ _ _ (by omega)] at hd
    split at hd
    · rcases hv with h3 | ⟨b', h3, h4⟩
      · rw [h3] at hd; exact h.qB c b hd
      · rw [h3] at hd
        have : b' = b := by simpa using hd
        have := h.bl.size
        omega
    · exact h.qB d b hd
  · change (qn (m.qs.set c v') d).ownBlock = some b at hd
    rw [qn_set _ _ _ _ (by omega)] at hd
    split at hd
    · exact ⟨hnew b hd m.gv (own_lt h.grp) (fun x hx => (h.aq c x hx).1), hnew b hd m.cv (own_lt h.cel) (fun x hx => (h.aq c x hx).2)⟩
    · exact h.aq d b hd
  · change (qn (m.qs.set c v') d).ownBlock = some b at hd
    show (qn (m.qs.set c v') e).ownBlock ≠ some b
    rw [qn_set _ _ _ _ (by omega)] at hd ⊢
    by_cases hcd : c = d
    · rw [if_pos hcd] at hd
      rw [if_neg (by omega)]
      exact hnew b hd _ (hlt e) (fun x hx => h.qq c e x (by omega) hx)
    · rw [if_neg hcd] at hd
      by_cases hce : c = e
      · rw [if_pos hce]
        intro hx
        exact hnew b hx _ (hlt d) (fun x hx2 => h.qq c d x hcd hx2) hd
      · rw [if_neg hce]
        exact h.qq d e b hde hd
end LW
end Go.Proofs.Ytghpfhoajcgghaa
