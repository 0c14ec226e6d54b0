/-
  The program's machine in memory.
-/
import Derived.Test.YtheifjakpdeiaaaHnd
namespace Go.Proofs.Ytheifjakpdeiaaa
open Go.RowKit
set_option linter.unusedVariables false
set_option linter.unusedSimpArgs false
namespace LW
open Mc
/-- The rows that a machine owns. -/
structure PV where
  rv : Value
  hv : Value
  gv : Value
  lv : Value
  cv : Value
  ev : Value
  nv : Value
  nn : List Nat
  ps : List Nat
  qs : List Value
  iv : Nat → Value
  gb : Option Nat
  gx : Int
  ge : Option Nat
  gy : Int
def ptr (b : Nat) : Value := .pointer (some ⟨b, 0, none⟩)
/-- Where a runner stands: behind the last instruction, where it has ended. -/
def aT (s : Syst) (r : Rn) : Int := if r.ended then ((pg s r.prog).length : Int) else r.pos
/-- A runner's cells. -/
def rpC (s : Syst) (iv : Nat → Value) (r : Rn) : Array Value := #[iv r.prog.toNat, .int .i64 (aT s r), .int .i64 (r.regs.getD 0 0), .int .i64 (r.regs.getD 1 0), .int .i64 (r.regs.getD 2 0), .int .i64 (r.regs.getD 3 0), .int .i64 (r.regs.getD 4 0), .int .i64 (r.regs.getD 5 0), .int .i64 (r.regs.getD 6 0), .int .i64 (r.regs.getD 7 0)]
/-- The machine's cells. -/
def mpC (s : Syst) (pa : Option Addr) (pc : Nat) (m : PV) : Array Value := #[.slice pa s.progs.length pc, m.rv, m.hv, m.gv, m.lv, m.cv, m.ev, m.nv]
/-- A channel. -/
structure Ch where
  room : Int
  q : Value
  sh : Bool
def chV (x : Ch) (j : Nat) : Value := if j = 0 then .int .i64 x.room else if j = 1 then x.q else .bool x.sh
def chL (s : Syst) (t : St) (qs : List Value) : List Ch := (List.range t.held.length).map fun c => ⟨s.rooms.getD c 0, qn qs c, t.shut.getD c false⟩
/-- The channels' cells. -/
def chC (s : Syst) (t : St) (qs : List Value) : List Value := flC 3 chV (chL s t qs)
theorem chL_len (s : Syst) (t : St) (qs : List Value) : (chL s t qs).length = t.held.length := by simp [chL]
theorem chL_at (s : Syst) (t : St) (qs : List Value) (c : Nat) (hc : c < t.held.length) (d : Ch) : (chL s t qs).getD c d = ⟨s.rooms.getD c 0, qn qs c, t.shut.getD c false⟩ := by
  unfold chL
  rw [List.getD_eq_getElem?_getD, List.getElem?_map, List.getElem?_range hc]
  rfl
/-- Who owns blocks of numbers. -/
def obk (m : PV) : Nat → Option Nat
  | 0 => m.gv.ownBlock
  | 1 => m.cv.ownBlock
  | 2 => m.nv.ownBlock
  | 3 => m.gb
  | c + 4 => (qn m.qs c).ownBlock
/-- The programs as they lie. -/
def PI (o : World) (s : Syst) (pa : Option Addr) (iv : Nat → Value) : Prop := ∃ b off, pa = some ⟨b, off, none⟩ ∧ ∀ p, p < s.progs.length → ∃ A K, iv p = .slice A (s.progs.getD p []).length K ∧ o.cell? ⟨b, off + p, none⟩ = some (iv p) ∧ IR o A (s.progs.getD p [])
/-- The machine in memory: o the world that it began in, g its block. -/
structure PM (o W : World) (g : Nat) (s : Syst) (pa : Option Addr) (pc : Nat) (t : St) (m : PV) : Prop where
  bl : Below o.heap.size o W
  pr : PI o s pa m.iv
  gB : o.heap.size ≤ g
  blk : W.heap[g]? = some (.cells (mpC s pa pc m) 58 (0, 0))
  rns : W.ownsRow o.heap.size 72 1 m.rv t.rns.length (m.ps.map ptr)
  rnB : ∀ k, k < t.rns.length → W.heap[m.ps.getD k 0]? = some (.cells (rpC s m.iv (Mc.rn t k)) 75 (0, 0))
  rnG : ∀ k, k < t.rns.length → o.heap.size ≤ m.ps.getD k 0
  rnD : ∀ j k, j < t.rns.length → k < t.rns.length → m.ps.getD j 0 = m.ps.getD k 0 → j = k
  chs : W.ownsRow o.heap.size 71 3 m.hv t.held.length (chC s t m.qs)
  qus : ∀ c, c < t.held.length → Qu W (qn m.qs c) (t.held.getD c [])
  qB : m.qs.length = t.held.length ∧ ∀ c b, (qn m.qs c).ownBlock = some b → o.heap.size ≤ b
  lck : W.ownsRow o.heap.size 4 1 m.lv t.locked.length (t.locked.map Value.bool)
  grp : W.ownsRow o.heap.size 3 1 m.gv t.groups.length (t.groups.map (Value.int .i64))
  cel : W.ownsRow o.heap.size 3 1 m.cv t.cells.length (t.cells.map (Value.int .i64))
  lst : W.ownsRow o.heap.size 3 1 m.nv m.nn.length (natV m.nn)
  evs : W.ownsRow o.heap.size 36 5 m.ev t.evs.length (evC t.evs)
  gst : ∀ p, m.gb = some p → W.heap[p]? = some (.cells #[.int .i64 m.gx] 3 (0, 0)) ∧ o.heap.size ≤ p
  gse : ∀ p, m.ge = some p → W.heap[p]? = some (.cells #[.int .i64 m.gy] 26 (0, 0)) ∧ o.heap.size ≤ p
  dis : ∀ i j b, obk m i = some b → obk m j = some b → i = j
theorem PM.below {o W W' : World} {g : Nat} {s : Syst} {pa : Option Addr} {pc : Nat} {t : St} {m : PV} (h : PM o W g s pa pc t m) (hb : Below W.heap.size W W') : PM o W' g s pa pc t m :=
  ⟨h.bl.trans (hb.mono h.bl.size), h.pr, h.gB, blk_keep h.blk hb, own_belowI h.rns hb, fun k hk => blk_keep (h.rnB k hk) hb, h.rnG, h.rnD, own_belowI h.chs hb, fun c hc => (h.qus c hc).below hb, h.qB, own_belowI h.lck hb, own_belowI h.grp hb, own_belowI h.cel hb, own_belowI h.lst hb, own_belowI h.evs hb, fun p hp => ⟨blk_keep (h.gst p hp).1 hb, (h.gst p hp).2⟩, fun p hp => ⟨blk_keep (h.gse p hp).1 hb, (h.gse p hp).2⟩, h.dis⟩
theorem rn_setD (t : St) (k j : Nat) (r : Rn) (hk : k < t.rns.length) : (t.rns.set k r).getD j r0 = if k = j then r else Mc.rn t j := rn_set t k j r hk
theorem own_blkE {w : World} {B n s b cap n' : Nat} {t : TypeId} {v : Value} {xs : List Value} (h : w.ownsRow B t s v n xs) (he : v = .slice (some ⟨b, 0, none⟩) n' cap) : v.ownBlock = some b := by rw [he]; simp [Value.ownBlock]
/-- A cell of a runner is set. -/
theorem PM.setRn {o W : World} {g : Nat} {s : Syst} {pa : Option Addr} {pc : Nat} {t : St} {m : PV} (h : PM o W g s pa pc t m) (k : Nat) (hkl : k < t.rns.length) (r : Rn) (jj : Nat) (u : Value) (hr : rpC s m.iv r = (rpC s m.iv (Mc.rn t k)).setIfInBounds jj u) : PM o (W.setCell ⟨m.ps.getD k 0, jj, none⟩ u) g s pa pc { t with rns := t.rns.set k r } m := by
  have hB := h.rnG k hkl
  have hh1 := h.rnB k hkl
  refine ⟨h.bl.setCell (p := ⟨(m.ps.getD k 0), jj, none⟩) hB _,
    h.pr,
    h.gB,
    blk_setN h.blk hh1 (by decide),
    ?_,
    ?_,
    fun j hj => h.rnG j (by simpa using hj),
    fun i j hi hj e => h.rnD i j (by simpa using hi) (by simpa using hj) e,
    own_setN h.chs hh1 (by decide),
    fun d hd => (h.qus d hd).setN hh1 (by decide),
    h.qB,
    own_setN h.lck hh1 (by decide),
    own_setN h.grp hh1 (by decide),
    own_setN h.cel hh1 (by decide),
    own_setN h.lst hh1 (by decide),
    own_setN h.evs hh1 (by decide),
    fun p hp => ⟨blk_setN (h.gst p hp).1 hh1 (by decide), (h.gst p hp).2⟩,
    fun p hp => ⟨blk_setN (h.gse p hp).1 hh1 (by decide), (h.gse p hp).2⟩,
    h.dis⟩
  · show World.ownsRow _ _ _ _ _ (t.rns.set k r).length _
    rw [List.length_set]
    exact own_setN h.rns hh1 (by decide)
  · intro j hj
    have hj' : j < t.rns.length := by simpa using hj
    show (World.setCell W _ u).heap[m.ps.getD j 0]? = some (.cells (rpC s m.iv ((t.rns.set k r).getD j r0)) _ (0, 0))
    rw [rn_setD t k j r hkl]
    by_cases hkj : k = j
    · subst hkj
      rw [if_pos rfl, hr]
      exact blk_set hh1
    · rw [if_neg hkj, Below.heap_setCell _ _ _ _ (fun e => hkj (h.rnD k j hkl hj' e.symm))]
      exact h.rnB j hj'
theorem map_range_set {α : Type} (f f' : Nat → α) (n c : Nat) (y : α) (hc : f' c = y) (hn : ∀ i, i ≠ c → f' i = f i) : (List.range n).map f' = ((List.range n).map f).set c y := by
  apply List.ext_getElem?
  intro i
  rw [List.getElem?_set, List.getElem?_map, List.getElem?_map, List.length_map, List.length_range]
  by_cases hi : i < n
  · rw [List.getElem?_range hi]
    by_cases hci : c = i
    · subst hci
      rw [if_pos rfl, if_pos hi]
      simp [hc]
    · rw [if_neg hci]
      simp [hn i (Ne.symm hci)]
  · rw [List.getElem?_eq_none (by simpa using hi)]
    by_cases hci : c = i
    · rw [if_pos hci, if_neg (by omega)]; rfl
    · rw [if_neg hci]; rfl
theorem chC_shut (s : Syst) (t : St) (qs : List Value) (c : Nat) (x : Bool) (hc : c < t.held.length) (hl : t.shut.length = t.held.length) : chC s { t with shut := t.shut.set c x } qs = (chC s t qs).set (c * 3 + 2) (.bool x) := by
  unfold chC
  rw [← flC_set 3 chV ⟨0, .bool false, false⟩ (chL s t qs) c 2 ⟨s.rooms.getD c 0, qn qs c, x⟩ _ (by rw [chL_len]; exact hc) (by omega) (fun j hj => ?_)]
  · congr 1
    refine map_range_set _ _ _ _ _ ?_ (fun i hi => ?_)
    · show Ch.mk _ _ ((t.shut.set c x).getD c false) = _
      rw [Mc.getD_set_eq _ _ _ (by omega)]
    · show Ch.mk _ _ ((t.shut.set c x).getD i false) = _
      rw [Mc.getD_set_ne _ _ _ (Ne.symm hi)]
  · rw [chL_at s t qs c hc]
    match j, hj with
    | 0, _ => rfl
    | 1, _ => rfl
    | 2, _ => rfl
theorem chC_q (s : Syst) (t : St) (qs : List Value) (c : Nat) (l : List Int) (v : Value) (hc : c < t.held.length) (hl : qs.length = t.held.length) : chC s { t with held := t.held.set c l } (qs.set c v) = (chC s t qs).set (c * 3 + 1) v := by
  unfold chC
  rw [← flC_set 3 chV ⟨0, .bool false, false⟩ (chL s t qs) c 1 ⟨s.rooms.getD c 0, v, t.shut.getD c false⟩ _ (by rw [chL_len]; exact hc) (by omega) (fun j hj => ?_)]
  · congr 1
    unfold chL
    rw [List.length_set]
    refine map_range_set _ _ _ _ _ ?_ (fun i hi => ?_)
    · show Ch.mk _ (qn (qs.set c v) c) _ = _
      rw [qn_set _ _ _ _ (by omega), if_pos rfl]
    · show Ch.mk _ (qn (qs.set c v) i) _ = _
      rw [qn_set _ _ _ _ (by omega), if_neg (Ne.symm hi)]
  · rw [chL_at s t qs c hc]
    match j, hj with
    | 0, _ => rfl
    | 1, _ => rfl
    | 2, _ => rfl
/-- A channel is closed (or not). -/
theorem PM.setSh {o W : World} {g : Nat} {s : Syst} {pa : Option Addr} {pc : Nat} {t : St} {m : PV} (h : PM o W g s pa pc t m) {b cap : Nat} (he : m.hv = .slice (some ⟨b, 0, none⟩) t.held.length cap) (c : Nat) (hc : c < t.held.length) (hl : t.shut.length = t.held.length) (x : Bool) : PM o (W.setCell ⟨b, c * 3 + 2, none⟩ (.bool x)) g s pa pc { t with shut := t.shut.set c x } m := by
  have hn : 0 < t.held.length := by omega
  obtain ⟨hB, cur, hh1⟩ := row_is h.chs he hn
  have hrow := h.chs
  rw [he] at hrow
  refine ⟨h.bl.setCell (p := ⟨b, c * 3 + 2, none⟩) hB _,
    h.pr,
    h.gB,
    blk_setN h.blk hh1 (by decide),
    own_setN h.rns hh1 (by decide),
    fun k hk_ => blk_setN (h.rnB k hk_) hh1 (by decide),
    h.rnG,
    h.rnD,
    ?_,
    fun d hd => (h.qus d hd).setN hh1 (by decide),
    h.qB,
    own_setN h.lck hh1 (by decide),
    own_setN h.grp hh1 (by decide),
    own_setN h.cel hh1 (by decide),
    own_setN h.lst hh1 (by decide),
    own_setN h.evs hh1 (by decide),
    fun p hp => ⟨blk_setN (h.gst p hp).1 hh1 (by decide), (h.gst p hp).2⟩,
    fun p hp => ⟨blk_setN (h.gse p hp).1 hh1 (by decide), (h.gse p hp).2⟩,
    h.dis⟩
  show World.ownsRow _ _ _ _ _ t.held.length (chC s { t with shut := t.shut.set c x } m.qs)
  rw [chC_shut s t m.qs c x hc hl, he]
  exact (hrow.stored _ _).1
/-- A lock is taken or given back. -/
theorem PM.setLk {o W : World} {g : Nat} {s : Syst} {pa : Option Addr} {pc : Nat} {t : St} {m : PV} (h : PM o W g s pa pc t m) {b cap : Nat} (he : m.lv = .slice (some ⟨b, 0, none⟩) t.locked.length cap) (hn : 0 < t.locked.length) (jj : Nat) (x : Bool) : PM o (W.setCell ⟨b, jj, none⟩ (.bool x)) g s pa pc { t with locked := t.locked.set jj x } m := by
  obtain ⟨hB, cur, hh1⟩ := row_is h.lck he hn
  have hrow := h.lck
  rw [he] at hrow
  refine ⟨h.bl.setCell (p := ⟨b, jj, none⟩) hB _,
    h.pr,
    h.gB,
    blk_setN h.blk hh1 (by decide),
    own_setN h.rns hh1 (by decide),
    fun k hk_ => blk_setN (h.rnB k hk_) hh1 (by decide),
    h.rnG,
    h.rnD,
    own_setN h.chs hh1 (by decide),
    fun d hd => (h.qus d hd).setN hh1 (by decide),
    h.qB,
    ?_,
    own_setN h.grp hh1 (by decide),
    own_setN h.cel hh1 (by decide),
    own_setN h.lst hh1 (by decide),
    own_setN h.evs hh1 (by decide),
    fun p hp => ⟨blk_setN (h.gst p hp).1 hh1 (by decide), (h.gst p hp).2⟩,
    fun p hp => ⟨blk_setN (h.gse p hp).1 hh1 (by decide), (h.gse p hp).2⟩,
    h.dis⟩
  show World.ownsRow _ _ _ _ _ (t.locked.set jj x).length _
  rw [List.length_set, he, List.map_set]
  exact (hrow.stored jj _).1
/-- A number is set. -/
theorem PM.setGr {o W : World} {g : Nat} {s : Syst} {pa : Option Addr} {pc : Nat} {t : St} {m : PV} (h : PM o W g s pa pc t m) {b cap : Nat} (he : m.gv = .slice (some ⟨b, 0, none⟩) t.groups.length cap) (hn : 0 < t.groups.length) (jj : Nat) (x : Int) : PM o (W.setCell ⟨b, jj, none⟩ (.int .i64 x)) g s pa pc { t with groups := t.groups.set jj x } m := by
  obtain ⟨hB, cur, hh1⟩ := row_is h.grp he hn
  have hrow := h.grp
  rw [he] at hrow
  have hpx : obk m 0 = some b := own_blkE h.grp he
  refine ⟨h.bl.setCell (p := ⟨b, jj, none⟩) hB _,
    h.pr,
    h.gB,
    blk_setN h.blk hh1 (by decide),
    own_setN h.rns hh1 (by decide),
    fun k hk_ => blk_setN (h.rnB k hk_) hh1 (by decide),
    h.rnG,
    h.rnD,
    own_setN h.chs hh1 (by decide),
    fun d hd => (h.qus d hd).setB (fun e => absurd (h.dis (d + 4) 0 _ e hpx) (by omega)),
    h.qB,
    own_setN h.lck hh1 (by decide),
    ?_,
    own_setB h.cel (fun e => absurd (h.dis 1 0 _ e hpx) (by omega)),
    own_setB h.lst (fun e => absurd (h.dis 2 0 _ e hpx) (by omega)),
    own_setN h.evs hh1 (by decide),
    fun p hp => ⟨(by rw [Below.heap_setCell _ _ _ _ (fun e => absurd (h.dis 3 0 _ hp (by rw [e]; exact hpx)) (by omega))]; exact (h.gst p hp).1), (h.gst p hp).2⟩,
    fun p hp => ⟨blk_setN (h.gse p hp).1 hh1 (by decide), (h.gse p hp).2⟩,
    h.dis⟩
  show World.ownsRow _ _ _ _ _ (t.groups.set jj x).length _
  rw [List.length_set, he, List.map_set]
  exact (hrow.stored jj _).1
/-- A number is set. -/
theorem PM.setCe {o W : World} {g : Nat} {s : Syst} {pa : Option Addr} {pc : Nat} {t : St} {m : PV} (h : PM o W g s pa pc t m) {b cap : Nat} (he : m.cv = .slice (some ⟨b, 0, none⟩) t.cells.length cap) (hn : 0 < t.cells.length) (jj : Nat) (x : Int) : PM o (W.setCell ⟨b, jj, none⟩ (.int .i64 x)) g s pa pc { t with cells := t.cells.set jj x } m := by
  obtain ⟨hB, cur, hh1⟩ := row_is h.cel he hn
  have hrow := h.cel
  rw [he] at hrow
  have hpx : obk m 1 = some b := own_blkE h.cel he
  refine ⟨h.bl.setCell (p := ⟨b, jj, none⟩) hB _,
    h.pr,
    h.gB,
    blk_setN h.blk hh1 (by decide),
    own_setN h.rns hh1 (by decide),
    fun k hk_ => blk_setN (h.rnB k hk_) hh1 (by decide),
    h.rnG,
    h.rnD,
    own_setN h.chs hh1 (by decide),
    fun d hd => (h.qus d hd).setB (fun e => absurd (h.dis (d + 4) 1 _ e hpx) (by omega)),
    h.qB,
    own_setN h.lck hh1 (by decide),
    own_setB h.grp (fun e => absurd (h.dis 0 1 _ e hpx) (by omega)),
    ?_,
    own_setB h.lst (fun e => absurd (h.dis 2 1 _ e hpx) (by omega)),
    own_setN h.evs hh1 (by decide),
    fun p hp => ⟨(by rw [Below.heap_setCell _ _ _ _ (fun e => absurd (h.dis 3 1 _ hp (by rw [e]; exact hpx)) (by omega))]; exact (h.gst p hp).1), (h.gst p hp).2⟩,
    fun p hp => ⟨blk_setN (h.gse p hp).1 hh1 (by decide), (h.gse p hp).2⟩,
    h.dis⟩
  show World.ownsRow _ _ _ _ _ (t.cells.set jj x).length _
  rw [List.length_set, he, List.map_set]
  exact (hrow.stored jj _).1
/-- A cell of the events is set. -/
theorem PM.setEv {o W : World} {g : Nat} {s : Syst} {pa : Option Addr} {pc : Nat} {t : St} {m : PV} (h : PM o W g s pa pc t m) {b cap : Nat} (he : m.ev = .slice (some ⟨b, 0, none⟩) t.evs.length cap) (hn : 0 < t.evs.length) (l : List Ev) (jj : Nat) (u : Value) (hl : l.length = t.evs.length) (hr : evC l = (evC t.evs).set jj u) : PM o (W.setCell ⟨b, jj, none⟩ u) g s pa pc { t with evs := l } m := by
  obtain ⟨hB, cur, hh1⟩ := row_is h.evs he hn
  have hrow := h.evs
  rw [he] at hrow
  refine ⟨h.bl.setCell (p := ⟨b, jj, none⟩) hB _,
    h.pr,
    h.gB,
    blk_setN h.blk hh1 (by decide),
    own_setN h.rns hh1 (by decide),
    fun k hk_ => blk_setN (h.rnB k hk_) hh1 (by decide),
    h.rnG,
    h.rnD,
    own_setN h.chs hh1 (by decide),
    fun d hd => (h.qus d hd).setN hh1 (by decide),
    h.qB,
    own_setN h.lck hh1 (by decide),
    own_setN h.grp hh1 (by decide),
    own_setN h.cel hh1 (by decide),
    own_setN h.lst hh1 (by decide),
    ?_,
    fun p hp => ⟨blk_setN (h.gst p hp).1 hh1 (by decide), (h.gst p hp).2⟩,
    fun p hp => ⟨blk_setN (h.gse p hp).1 hh1 (by decide), (h.gse p hp).2⟩,
    h.dis⟩
  show World.ownsRow _ _ _ _ _ l.length _
  rw [hl, hr, he]
  exact (hrow.stored jj _).1
/-- A guest's number is set. -/
theorem PM.setG {o W : World} {g : Nat} {s : Syst} {pa : Option Addr} {pc : Nat} {t : St} {m : PV} (h : PM o W g s pa pc t m) {p : Nat} (hp0 : m.gb = some p) (x : Int) : PM o (W.setCell ⟨p, 0, none⟩ (.int .i64 x)) g s pa pc t { m with gx := x } := by
  obtain ⟨hh1, hB⟩ := h.gst p hp0
  have hpx : obk m 3 = some p := hp0
  refine ⟨h.bl.setCell (p := ⟨p, 0, none⟩) hB _,
    h.pr,
    h.gB,
    blk_setN h.blk hh1 (by decide),
    own_setN h.rns hh1 (by decide),
    fun k hk_ => blk_setN (h.rnB k hk_) hh1 (by decide),
    h.rnG,
    h.rnD,
    own_setN h.chs hh1 (by decide),
    fun d hd => (h.qus d hd).setB (fun e => absurd (h.dis (d + 4) 3 _ e hpx) (by omega)),
    h.qB,
    own_setN h.lck hh1 (by decide),
    own_setB h.grp (fun e => absurd (h.dis 0 3 _ e hpx) (by omega)),
    own_setB h.cel (fun e => absurd (h.dis 1 3 _ e hpx) (by omega)),
    own_setB h.lst (fun e => absurd (h.dis 2 3 _ e hpx) (by omega)),
    own_setN h.evs hh1 (by decide),
    ?_,
    fun p hp => ⟨blk_setN (h.gse p hp).1 hh1 (by decide), (h.gse p hp).2⟩,
    h.dis⟩
  intro q hq
  have e : p = q := by
    have : m.gb = some q := hq
    rw [hp0] at this
    simpa using this
  subst e
  exact ⟨blk_set (i := 0) (u := .int .i64 x) hh1, hB⟩
/-- Another guest's number is set. -/
theorem PM.setE {o W : World} {g : Nat} {s : Syst} {pa : Option Addr} {pc : Nat} {t : St} {m : PV} (h : PM o W g s pa pc t m) {p : Nat} (hp0 : m.ge = some p) (x : Int) : PM o (W.setCell ⟨p, 0, none⟩ (.int .i64 x)) g s pa pc t { m with gy := x } := by
  obtain ⟨hh1, hB⟩ := h.gse p hp0
  refine ⟨h.bl.setCell (p := ⟨p, 0, none⟩) hB _,
    h.pr,
    h.gB,
    blk_setN h.blk hh1 (by decide),
    own_setN h.rns hh1 (by decide),
    fun k hk_ => blk_setN (h.rnB k hk_) hh1 (by decide),
    h.rnG,
    h.rnD,
    own_setN h.chs hh1 (by decide),
    fun d hd => (h.qus d hd).setN hh1 (by decide),
    h.qB,
    own_setN h.lck hh1 (by decide),
    own_setN h.grp hh1 (by decide),
    own_setN h.cel hh1 (by decide),
    own_setN h.lst hh1 (by decide),
    own_setN h.evs hh1 (by decide),
    fun p hp => ⟨blk_setN (h.gst p hp).1 hh1 (by decide), (h.gst p hp).2⟩,
    ?_,
    h.dis⟩
  intro q hq
  have e : p = q := by
    have : m.ge = some q := hq
    rw [hp0] at this
    simpa using this
  subst e
  exact ⟨blk_set (i := 0) (u := .int .i64 x) hh1, hB⟩
end LW
end Go.Proofs.Ytheifjakpdeiaaa
