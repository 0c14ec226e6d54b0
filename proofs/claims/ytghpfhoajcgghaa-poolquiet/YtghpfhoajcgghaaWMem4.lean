/-
  The machine in memory as it begins: rows that grow, and the machine without its block.
-/
import Derived.Test.YtghpfhoajcgghaaSysY
namespace Go.Proofs.Ytghpfhoajcgghaa
open Go.RowKit
set_option linter.unusedVariables false
set_option linter.unusedSimpArgs false
namespace LW
open Mc
theorem WM.addSh {o W W' : World} {g : Nat} {s : Syst} {pa : Option Addr} {pc : Nat} {ra : Option Addr} {rc : Nat} {t : St} {m : WV} (h : WM o W g s pa pc ra rc t m) (v' : Value) (ho : W'.ownsRow o.heap.size 4 1 v' (t.shut.length + 1) (t.shut.map Value.bool ++ [.bool false])) (hg : W.grownBy W' m.sv.ownBlock) (h5 : v'.ownBlock = m.sv.ownBlock ∨ v'.ownBlock = some W.heap.size) : WM o (W'.setCell ⟨g, 7, none⟩ v') g s pa pc ra rc { t with shut := t.shut ++ [false] } { m with sv := v' } := by
  have hgk : W'.heap[g]? = some (.cells (wdC s pa pc ra rc m.rv m.hv m.sv m.lv m.gv m.cv m.ev) 58 (0, 0)) := by
    rw [hg.block g (blk_lt h.blk) (fun e => own_neB h.sht h.blk (by decide) e.symm)]
    exact h.blk
  have kp : ∀ {n s' : Nat} {ty : TypeId} {v : Value} {xs : List Value}, W.ownsRow o.heap.size ty s' v n xs → ty ≠ 4 → ty ≠ 58 → (W'.setCell ⟨g, 7, none⟩ v').ownsRow o.heap.size ty s' v n xs := fun h1 h2 h3 => own_setN (own_grownT h1 hg (own_neT h1 h.sht h2)) hgk h3
  have kb : ∀ {n s' : Nat} {ty : TypeId} {v : Value} {xs : List Value}, W.ownsRow o.heap.size ty s' v n xs → (∀ b, v.ownBlock = some b → m.sv.ownBlock ≠ some b) → ty ≠ 58 → (W'.setCell ⟨g, 7, none⟩ v').ownsRow o.heap.size ty s' v n xs := fun h1 h2 h3 => own_setN (own_grownT h1 hg h2) hgk h3
  have hnew : ∀ b (v : Value), v'.ownBlock = some b → (∀ x, v.ownBlock = some x → x < W.heap.size) → (∀ x, m.sv.ownBlock = some x → v.ownBlock ≠ some x) → v.ownBlock ≠ some b := fun b v hb h1 h2 e => by
    rcases h5 with h3 | h3
    · rw [h3] at hb; exact h2 b hb e
    · rw [h3] at hb
      have := h1 b e
      have : W.heap.size = b := by simpa using hb
      omega
  have hqk : ∀ c, c < t.held.length → Qu (W'.setCell ⟨g, 7, none⟩ v') (qn m.qs c) (t.held.getD c []) := fun c hc => by
    refine ((h.qus c hc).keep (fun b hb => ?_)).setN hgk (by decide)
    refine hg.block b ((h.qus c hc).lt b hb) (fun e => ?_)
    exact (h.qus c hc).neT h.sht (by decide) b hb e.symm
  refine ⟨(h.bl.grown hg (by have := h.bl.size; omega) (fun k hk => own_blkI h.sht k hk)).setCell (p := ⟨g, 7, none⟩) h.gB _, h.sm, h.gB, blk_set (i := 7) (u := v') hgk, kp h.rns (by decide) (by decide), kp h.hld (by decide) (by decide), hqk, h.qB, ?_, kb h.lck (fun b e1 e2 => h.ab b e2 e1) (by decide), kp h.grp (by decide) (by decide), kp h.cel (by decide) (by decide), kp h.evs (by decide) (by decide), (fun b hb => hnew b m.lv hb (own_lt h.lck) h.ab), h.ai, h.aq, h.qq, fun p hp => blk_setN (by rw [hg.block p (blk_lt (h.gst p hp)) (fun e => own_neB h.sht (h.gst p hp) (by decide) e.symm)]; exact h.gst p hp) hgk (by decide)⟩
  show World.ownsRow _ _ _ _ _ (t.shut ++ [false]).length _
  rw [List.length_append, List.map_append]
  exact own_setN ho hgk (by decide)
theorem WM.addLk {o W W' : World} {g : Nat} {s : Syst} {pa : Option Addr} {pc : Nat} {ra : Option Addr} {rc : Nat} {t : St} {m : WV} (h : WM o W g s pa pc ra rc t m) (v' : Value) (ho : W'.ownsRow o.heap.size 4 1 v' (t.locked.length + 1) (t.locked.map Value.bool ++ [.bool false])) (hg : W.grownBy W' m.lv.ownBlock) (h5 : v'.ownBlock = m.lv.ownBlock ∨ v'.ownBlock = some W.heap.size) : WM o (W'.setCell ⟨g, 8, none⟩ v') g s pa pc ra rc { t with locked := t.locked ++ [false] } { m with lv := v' } := by
  have hgk : W'.heap[g]? = some (.cells (wdC s pa pc ra rc m.rv m.hv m.sv m.lv m.gv m.cv m.ev) 58 (0, 0)) := by
    rw [hg.block g (blk_lt h.blk) (fun e => own_neB h.lck h.blk (by decide) e.symm)]
    exact h.blk
  have kp : ∀ {n s' : Nat} {ty : TypeId} {v : Value} {xs : List Value}, W.ownsRow o.heap.size ty s' v n xs → ty ≠ 4 → ty ≠ 58 → (W'.setCell ⟨g, 8, none⟩ v').ownsRow o.heap.size ty s' v n xs := fun h1 h2 h3 => own_setN (own_grownT h1 hg (own_neT h1 h.lck h2)) hgk h3
  have kb : ∀ {n s' : Nat} {ty : TypeId} {v : Value} {xs : List Value}, W.ownsRow o.heap.size ty s' v n xs → (∀ b, v.ownBlock = some b → m.lv.ownBlock ≠ some b) → ty ≠ 58 → (W'.setCell ⟨g, 8, none⟩ v').ownsRow o.heap.size ty s' v n xs := fun h1 h2 h3 => own_setN (own_grownT h1 hg h2) hgk h3
  have hnew : ∀ b (v : Value), v'.ownBlock = some b → (∀ x, v.ownBlock = some x → x < W.heap.size) → (∀ x, m.lv.ownBlock = some x → v.ownBlock ≠ some x) → v.ownBlock ≠ some b := fun b v hb h1 h2 e => by
    rcases h5 with h3 | h3
    · rw [h3] at hb; exact h2 b hb e
    · rw [h3] at hb
      have := h1 b e
      have : W.heap.size = b := by simpa using hb
      omega
  have hqk : ∀ c, c < t.held.length → Qu (W'.setCell ⟨g, 8, none⟩ v') (qn m.qs c) (t.held.getD c []) := fun c hc => by
    refine ((h.qus c hc).keep (fun b hb => ?_)).setN hgk (by decide)
    refine hg.block b ((h.qus c hc).lt b hb) (fun e => ?_)
    exact (h.qus c hc).neT h.lck (by decide) b hb e.symm
  refine ⟨(h.bl.grown hg (by have := h.bl.size; omega) (fun k hk => own_blkI h.lck k hk)).setCell (p := ⟨g, 8, none⟩) h.gB _, h.sm, h.gB, blk_set (i := 8) (u := v') hgk, kp h.rns (by decide) (by decide), kp h.hld (by decide) (by decide), hqk, h.qB, kb h.sht (fun b e1 e2 => h.ab b e1 e2) (by decide), ?_, kp h.grp (by decide) (by decide), kp h.cel (by decide) (by decide), kp h.evs (by decide) (by decide), (fun b hb e => hnew b m.sv e (own_lt h.sht) (fun x hx hy => h.ab x hy hx) hb), h.ai, h.aq, h.qq, fun p hp => blk_setN (by rw [hg.block p (blk_lt (h.gst p hp)) (fun e => own_neB h.lck (h.gst p hp) (by decide) e.symm)]; exact h.gst p hp) hgk (by decide)⟩
  show World.ownsRow _ _ _ _ _ (t.locked ++ [false]).length _
  rw [List.length_append, List.map_append]
  exact own_setN ho hgk (by decide)
theorem WM.addGr {o W W' : World} {g : Nat} {s : Syst} {pa : Option Addr} {pc : Nat} {ra : Option Addr} {rc : Nat} {t : St} {m : WV} (h : WM o W g s pa pc ra rc t m) (v' : Value) (ho : W'.ownsRow o.heap.size 3 1 v' (t.groups.length + 1) (t.groups.map (Value.int .i64) ++ [.int .i64 0])) (hg : W.grownBy W' m.gv.ownBlock) (h5 : v'.ownBlock = m.gv.ownBlock ∨ v'.ownBlock = some W.heap.size) : WM o (W'.setCell ⟨g, 9, none⟩ v') g s pa pc ra rc { t with groups := t.groups ++ [0] } { m with gv := v' } := by
  have hgk : W'.heap[g]? = some (.cells (wdC s pa pc ra rc m.rv m.hv m.sv m.lv m.gv m.cv m.ev) 58 (0, 0)) := by
    rw [hg.block g (blk_lt h.blk) (fun e => own_neB h.grp h.blk (by decide) e.symm)]
    exact h.blk
  have kp : ∀ {n s' : Nat} {ty : TypeId} {v : Value} {xs : List Value}, W.ownsRow o.heap.size ty s' v n xs → ty ≠ 3 → ty ≠ 58 → (W'.setCell ⟨g, 9, none⟩ v').ownsRow o.heap.size ty s' v n xs := fun h1 h2 h3 => own_setN (own_grownT h1 hg (own_neT h1 h.grp h2)) hgk h3
  have kb : ∀ {n s' : Nat} {ty : TypeId} {v : Value} {xs : List Value}, W.ownsRow o.heap.size ty s' v n xs → (∀ b, v.ownBlock = some b → m.gv.ownBlock ≠ some b) → ty ≠ 58 → (W'.setCell ⟨g, 9, none⟩ v').ownsRow o.heap.size ty s' v n xs := fun h1 h2 h3 => own_setN (own_grownT h1 hg h2) hgk h3
  have hnew : ∀ b (v : Value), v'.ownBlock = some b → (∀ x, v.ownBlock = some x → x < W.heap.size) → (∀ x, m.gv.ownBlock = some x → v.ownBlock ≠ some x) → v.ownBlock ≠ some b := fun b v hb h1 h2 e => by
    rcases h5 with h3 | h3
    · rw [h3] at hb; exact h2 b hb e
    · rw [h3] at hb
      have := h1 b e
      have : W.heap.size = b := by simpa using hb
      omega
  have hqk : ∀ c, c < t.held.length → Qu (W'.setCell ⟨g, 9, none⟩ v') (qn m.qs c) (t.held.getD c []) := fun c hc => by
    refine ((h.qus c hc).keep (fun b hb => ?_)).setN hgk (by decide)
    refine hg.block b ((h.qus c hc).lt b hb) (fun e => ?_)
    exact (h.aq c b hb).1 e.symm
  have hql : ∀ c b, (qn m.qs c).ownBlock = some b → b < W.heap.size := fun c b hb => by
    by_cases hc : c < t.held.length
    · exact (h.qus c hc).lt b hb
    · have := h.hld.1
      unfold qn at hb
      rw [List.getD_eq_getElem?_getD, List.getElem?_eq_none (by omega)] at hb
      simp [Value.ownBlock] at hb
  refine ⟨(h.bl.grown hg (by have := h.bl.size; omega) (fun k hk => own_blkI h.grp k hk)).setCell (p := ⟨g, 9, none⟩) h.gB _, h.sm, h.gB, blk_set (i := 9) (u := v') hgk, kp h.rns (by decide) (by decide), kp h.hld (by decide) (by decide), hqk, h.qB, kp h.sht (by decide) (by decide), kp h.lck (by decide) (by decide), ?_, kb h.cel (fun b e1 e2 => h.ai b e2 e1) (by decide), kp h.evs (by decide) (by decide), h.ab, (fun b hb => hnew b m.cv hb (own_lt h.cel) h.ai), (fun c b hb => ⟨fun e => hnew b (qn m.qs c) e (fun x hx => hql c x hx) (fun x hx hy => (h.aq c x hy).1 hx) hb, (h.aq c b hb).2⟩), h.qq, fun p hp => blk_setN (by rw [hg.block p (blk_lt (h.gst p hp)) (fun e => own_neB h.grp (h.gst p hp) (by decide) e.symm)]; exact h.gst p hp) hgk (by decide)⟩
  show World.ownsRow _ _ _ _ _ (t.groups ++ [0]).length _
  rw [List.length_append, List.map_append]
  exact own_setN ho hgk (by decide)
theorem WM.addCe {o W W' : World} {g : Nat} {s : Syst} {pa : Option Addr} {pc : Nat} {ra : Option Addr} {rc : Nat} {t : St} {m : WV} (h : WM o W g s pa pc ra rc t m) (v' : Value) (ho : W'.ownsRow o.heap.size 3 1 v' (t.cells.length + 1) (t.cells.map (Value.int .i64) ++ [.int .i64 0])) (hg : W.grownBy W' m.cv.ownBlock) (h5 : v'.ownBlock = m.cv.ownBlock ∨ v'.ownBlock = some W.heap.size) : WM o (W'.setCell ⟨g, 10, none⟩ v') g s pa pc ra rc { t with cells := t.cells ++ [0] } { m with cv := v' } := by
  have hgk : W'.heap[g]? = some (.cells (wdC s pa pc ra rc m.rv m.hv m.sv m.lv m.gv m.cv m.ev) 58 (0, 0)) := by
    rw [hg.block g (blk_lt h.blk) (fun e => own_neB h.cel h.blk (by decide) e.symm)]
    exact h.blk
  have kp : ∀ {n s' : Nat} {ty : TypeId} {v : Value} {xs : List Value}, W.ownsRow o.heap.size ty s' v n xs → ty ≠ 3 → ty ≠ 58 → (W'.setCell ⟨g, 10, none⟩ v').ownsRow o.heap.size ty s' v n xs := fun h1 h2 h3 => own_setN (own_grownT h1 hg (own_neT h1 h.cel h2)) hgk h3
  have kb : ∀ {n s' : Nat} {ty : TypeId} {v : Value} {xs : List Value}, W.ownsRow o.heap.size ty s' v n xs → (∀ b, v.ownBlock = some b → m.cv.ownBlock ≠ some b) → ty ≠ 58 → (W'.setCell ⟨g, 10, none⟩ v').ownsRow o.heap.size ty s' v n xs := fun h1 h2 h3 => own_setN (own_grownT h1 hg h2) hgk h3
  have hnew : ∀ b (v : Value), v'.ownBlock = some b → (∀ x, v.ownBlock = some x → x < W.heap.size) → (∀ x, m.cv.ownBlock = some x → v.ownBlock ≠ some x) → v.ownBlock ≠ some b := fun b v hb h1 h2 e => by
    rcases h5 with h3 | h3
    · rw [h3] at hb; exact h2 b hb e
    · rw [h3] at hb
      have := h1 b e
      have : W.heap.size = b := by simpa using hb
      omega
  have hqk : ∀ c, c < t.held.length → Qu (W'.setCell ⟨g, 10, none⟩ v') (qn m.qs c) (t.held.getD c []) := fun c hc => by
    refine ((h.qus c hc).keep (fun b hb => ?_)).setN hgk (by decide)
    refine hg.block b ((h.qus c hc).lt b hb) (fun e => ?_)
    exact (h.aq c b hb).2 e.symm
  have hql : ∀ c b, (qn m.qs c).ownBlock = some b → b < W.heap.size := fun c b hb => by
    by_cases hc : c < t.held.length
    · exact (h.qus c hc).lt b hb
    · have := h.hld.1
      unfold qn at hb
      rw [List.getD_eq_getElem?_getD, List.getElem?_eq_none (by omega)] at hb
      simp [Value.ownBlock] at hb
  refine ⟨(h.bl.grown hg (by have := h.bl.size; omega) (fun k hk => own_blkI h.cel k hk)).setCell (p := ⟨g, 10, none⟩) h.gB _, h.sm, h.gB, blk_set (i := 10) (u := v') hgk, kp h.rns (by decide) (by decide), kp h.hld (by decide) (by decide), hqk, h.qB, kp h.sht (by decide) (by decide), kp h.lck (by decide) (by decide), kb h.grp (fun b e1 e2 => h.ai b e1 e2) (by decide), ?_, kp h.evs (by decide) (by decide), h.ab, (fun b hb e => hnew b m.gv e (own_lt h.grp) (fun x hx hy => h.ai x hy hx) hb), (fun c b hb => ⟨(h.aq c b hb).1, fun e => hnew b (qn m.qs c) e (fun x hx => hql c x hx) (fun x hx hy => (h.aq c x hy).2 hx) hb⟩), h.qq, fun p hp => blk_setN (by rw [hg.block p (blk_lt (h.gst p hp)) (fun e => own_neB h.cel (h.gst p hp) (by decide) e.symm)]; exact h.gst p hp) hgk (by decide)⟩
  show World.ownsRow _ _ _ _ _ (t.cells ++ [0]).length _
  rw [List.length_append, List.map_append]
  exact own_setN ho hgk (by decide)
theorem qn_more (qs : List Value) (c : Nat) : qn (qs ++ [.slice none 0 0]) c = qn qs c := by
  unfold qn
  rw [List.getD_eq_getElem?_getD, List.getD_eq_getElem?_getD]
  rcases Nat.lt_or_ge c qs.length with h | h
  · rw [List.getElem?_append_left h]
  · rw [List.getElem?_append_right h, List.getElem?_eq_none h]
    rcases Nat.eq_zero_or_pos (c - qs.length) with h0 | h0
    · rw [h0]; rfl
    · rw [List.getElem?_eq_none (by simp; omega)]
theorem WM.addHd {o W W' : World} {g : Nat} {s : Syst} {pa : Option Addr} {pc : Nat} {ra : Option Addr} {rc : Nat} {t : St} {m : WV} (h : WM o W g s pa pc ra rc t m) (v' : Value) (ho : W'.ownsRow o.heap.size 24 1 v' (t.held.length + 1) (m.qs ++ [.slice none 0 0])) (hg : W.grownBy W' m.hv.ownBlock) : WM o (W'.setCell ⟨g, 6, none⟩ v') g s pa pc ra rc { t with held := t.held ++ [[]] } { m with hv := v', qs := m.qs ++ [.slice none 0 0] } := by
  have hgk : W'.heap[g]? = some (.cells (wdC s pa pc ra rc m.rv m.hv m.sv m.lv m.gv m.cv m.ev) 58 (0, 0)) := by
    rw [hg.block g (blk_lt h.blk) (fun e => own_neB h.hld h.blk (by decide) e.symm)]
    exact h.blk
  have kp : ∀ {n s' : Nat} {ty : TypeId} {v : Value} {xs : List Value}, W.ownsRow o.heap.size ty s' v n xs → ty ≠ 24 → ty ≠ 58 → (W'.setCell ⟨g, 6, none⟩ v').ownsRow o.heap.size ty s' v n xs := fun h1 h2 h3 => own_setN (own_grownT h1 hg (own_neT h1 h.hld h2)) hgk h3
  refine ⟨(h.bl.grown hg (by have := h.bl.size; omega) (fun k hk => own_blkI h.hld k hk)).setCell (p := ⟨g, 6, none⟩) h.gB _, h.sm, h.gB, blk_set (i := 6) (u := v') hgk, kp h.rns (by decide) (by decide), ?_, fun c hc => ?_, fun c b hb => h.qB c b (by rw [← qn_more]; exact hb), kp h.sht (by decide) (by decide), kp h.lck (by decide) (by decide), kp h.grp (by decide) (by decide), kp h.cel (by decide) (by decide), kp h.evs (by decide) (by decide), h.ab, h.ai, fun c b hb => h.aq c b (by rw [← qn_more]; exact hb), fun c d b hcd hb => by show (qn (m.qs ++ [.slice none 0 0]) d).ownBlock ≠ _; rw [qn_more]; exact h.qq c d b hcd (by rw [← qn_more]; exact hb), fun p hp => blk_setN (by rw [hg.block p (blk_lt (h.gst p hp)) (fun e => own_neB h.hld (h.gst p hp) (by decide) e.symm)]; exact h.gst p hp) hgk (by decide)⟩
  · show World.ownsRow _ _ _ _ _ (t.held ++ [[]]).length _
    rw [List.length_append]
    exact own_setN ho hgk (by decide)
  · show Qu _ (qn (m.qs ++ [.slice none 0 0]) c) ((t.held ++ [[]]).getD c [])
    rw [qn_more, List.getD_eq_getElem?_getD]
    have hc' : c < t.held.length + 1 := by simpa using hc
    rcases Nat.lt_or_ge c t.held.length with h1 | h1
    · rw [List.getElem?_append_left h1, ← List.getD_eq_getElem?_getD]
      refine ((h.qus c h1).keep (fun b hb => ?_)).setN hgk (by decide)
      exact hg.block b ((h.qus c h1).lt b hb) (fun e => (h.qus c h1).neT h.hld (by decide) b hb e.symm)
    · have h2 := h.hld.1
      obtain rfl : c = t.held.length := by omega
      rw [List.getElem?_append_right (Nat.le_refl _), Nat.sub_self]
      unfold qn
      rw [List.getD_eq_getElem?_getD, List.getElem?_eq_none (by omega)]
      exact .inl ⟨rfl, rfl⟩
/-- The machine's rows, the machine itself in no block. -/
structure WB (o W : World) (s : Syst) (pa ra : Option Addr) (t : St) (m : WV) : Prop where
  bl : Below o.heap.size o W
  sm : SM o s pa ra
  rns : W.ownsRow o.heap.size 86 11 m.rv t.rns.length (rnC t.rns)
  hld : W.ownsRow o.heap.size 24 1 m.hv t.held.length m.qs
  qus : ∀ c, c < t.held.length → Qu W (qn m.qs c) (t.held.getD c [])
  qB : ∀ c b, (qn m.qs c).ownBlock = some b → o.heap.size ≤ b
  sht : W.ownsRow o.heap.size 4 1 m.sv t.shut.length (t.shut.map Value.bool)
  lck : W.ownsRow o.heap.size 4 1 m.lv t.locked.length (t.locked.map Value.bool)
  grp : W.ownsRow o.heap.size 3 1 m.gv t.groups.length (t.groups.map (Value.int .i64))
  cel : W.ownsRow o.heap.size 3 1 m.cv t.cells.length (t.cells.map (Value.int .i64))
  evs : W.ownsRow o.heap.size 45 5 m.ev t.evs.length (evC t.evs)
  ab : ∀ b, m.sv.ownBlock = some b → m.lv.ownBlock ≠ some b
  ai : ∀ b, m.gv.ownBlock = some b → m.cv.ownBlock ≠ some b
  aq : ∀ c b, (qn m.qs c).ownBlock = some b → m.gv.ownBlock ≠ some b ∧ m.cv.ownBlock ≠ some b
  qq : ∀ c d b, c ≠ d → (qn m.qs c).ownBlock = some b → (qn m.qs d).ownBlock ≠ some b
theorem WM.wb {o W : World} {g : Nat} {s : Syst} {pa : Option Addr} {pc : Nat} {ra : Option Addr} {rc : Nat} {t : St} {m : WV} (h : WM o W g s pa pc ra rc t m) : WB o W s pa ra t m := ⟨h.bl, h.sm, h.rns, h.hld, h.qus, h.qB, h.sht, h.lck, h.grp, h.cel, h.evs, h.ab, h.ai, h.aq, h.qq⟩
theorem WB.below {o W W' : World} {s : Syst} {pa ra : Option Addr} {t : St} {m : WV} (h : WB o W s pa ra t m) (hb : Below W.heap.size W W') : WB o W' s pa ra t m :=
  ⟨h.bl.trans (hb.mono h.bl.size), h.sm, own_belowI h.rns hb, own_belowI h.hld hb, fun c hc => (h.qus c hc).below hb, h.qB, own_belowI h.sht hb, own_belowI h.lck hb, own_belowI h.grp hb, own_belowI h.cel hb, own_belowI h.evs hb, h.ab, h.ai, h.aq, h.qq⟩
/-- The machine laid into a block. -/
theorem WB.box {o W : World} {g : Nat} {s : Syst} {pa : Option Addr} {pc : Nat} {ra : Option Addr} {rc : Nat} {t : St} {m : WV} (h : WB o W s pa ra t m) (hN : m.gb = none) (hB : o.heap.size ≤ g) (hg : W.heap[g]? = some (.cells (wdC s pa pc ra rc m.rv m.hv m.sv m.lv m.gv m.cv m.ev) 58 (0, 0))) : WM o W g s pa pc ra rc t m := ⟨h.bl, h.sm, hB, hg, h.rns, h.hld, h.qus, h.qB, h.sht, h.lck, h.grp, h.cel, h.evs, h.ab, h.ai, h.aq, h.qq, fun p hp => (by rw [hN] at hp; cases hp)⟩
theorem WB.noG {o W : World} {s : Syst} {pa ra : Option Addr} {t : St} {m : WV} (h : WB o W s pa ra t m) : WB o W s pa ra t { m with gb := none, gc := #[] } := ⟨h.bl, h.sm, h.rns, h.hld, h.qus, h.qB, h.sht, h.lck, h.grp, h.cel, h.evs, h.ab, h.ai, h.aq, h.qq⟩
/-- A guest: a block that no step touches. -/
theorem WM.guest {o W : World} {g : Nat} {s : Syst} {pa : Option Addr} {pc : Nat} {ra : Option Addr} {rc : Nat} {t : St} {m : WV} (h : WM o W g s pa pc ra rc t m) {p : Nat} {cs : Array Value} (hp : W.heap[p]? = some (.cells cs 38 (0, 0))) : WM o W g s pa pc ra rc t { m with gb := some p, gc := cs } := ⟨h.bl, h.sm, h.gB, h.blk, h.rns, h.hld, h.qus, h.qB, h.sht, h.lck, h.grp, h.cel, h.evs, h.ab, h.ai, h.aq, h.qq, fun q hq => by injection hq with hq; subst hq; exact hp⟩
/-- A field of the guest is set. -/
theorem WM.setG {o W : World} {g : Nat} {s : Syst} {pa : Option Addr} {pc : Nat} {ra : Option Addr} {rc : Nat} {t : St} {m : WV} (h : WM o W g s pa pc ra rc t m) {p : Nat} (hp : m.gb = some p) (hB : o.heap.size ≤ p) (j : Nat) (u : Value) : WM o (W.setCell ⟨p, j, none⟩ u) g s pa pc ra rc t { m with gc := m.gc.setIfInBounds j u } :=
  ⟨h.bl.setCell (p := ⟨p, j, none⟩) hB _, h.sm, h.gB, blk_setN h.blk (h.gst p hp) (by decide), own_setN h.rns (h.gst p hp) (by decide), own_setN h.hld (h.gst p hp) (by decide), fun c hc => (h.qus c hc).setN (h.gst p hp) (by decide), h.qB, own_setN h.sht (h.gst p hp) (by decide), own_setN h.lck (h.gst p hp) (by decide), own_setN h.grp (h.gst p hp) (by decide), own_setN h.cel (h.gst p hp) (by decide), own_setN h.evs (h.gst p hp) (by decide), h.ab, h.ai, h.aq, h.qq, fun q hq => by
    have e : p = q := by
      have := hp.symm.trans hq
      simpa using this
    subst e
    exact blk_set (h.gst p hp)⟩
end LW
end Go.Proofs.Ytghpfhoajcgghaa
