/-
  The program's machine in memory: rows that grow; what can be read.
-/
import Derived.Test.YtheifjakpdeiaaaPgM
namespace Go.Proofs.Ytheifjakpdeiaaa
open Go.RowKit
set_option linter.unusedVariables false
set_option linter.unusedSimpArgs false
namespace LW
open Mc
theorem PM.obI {o W : World} {g : Nat} {s : Syst} {pa : Option Addr} {pc : Nat} {t : St} {m : PV} (h : PM o W g s pa pc t m) : ∀ i b, obk m i = some b → b < W.heap.size
  | 0, b, hb => own_lt h.grp b hb
  | 1, b, hb => own_lt h.cel b hb
  | 2, b, hb => own_lt h.lst b hb
  | 3, b, hb => blk_lt (h.gst b hb).1
  | c + 4, b, hb => by
    change (qn m.qs c).ownBlock = some b at hb
    by_cases hc : c < t.held.length
    · exact (h.qus c hc).lt b hb
    · unfold qn at hb
      rw [List.getD_eq_getElem?_getD, List.getElem?_eq_none (by have := h.qB.1; omega)] at hb
      simp [Value.ownBlock] at hb
/-- The list of the ready ones is another. -/
theorem PM.setNv {o W : World} {g : Nat} {s : Syst} {pa : Option Addr} {pc : Nat} {t : St} {m : PV} {W1 : World} (h : PM o W g s pa pc t m) (l : List Nat) (v : Value) (ho : W1.ownsRow o.heap.size 3 1 v l.length (natV l)) (hk : ∀ b, b < W.heap.size → m.nv.ownBlock ≠ some b → W1.heap[b]? = W.heap[b]?) (hv : v.ownBlock = m.nv.ownBlock ∨ ∃ b, v.ownBlock = some b ∧ W.heap.size ≤ b) (hbl : Below o.heap.size o W1) : PM o (W1.setCell ⟨g, 7, none⟩ v) g s pa pc t { m with nv := v, nn := l } := by
  have hh1 : W1.heap[g]? = some (.cells (mpC s pa pc m) 58 (0, 0)) := by rw [hk g (blk_lt h.blk) (own_neB h.lst h.blk (by decide))]; exact h.blk
  refine ⟨hbl.setCell (p := ⟨g, 7, none⟩) h.gB _,
    h.pr,
    h.gB,
    ?_,
    own_setN (own_keepK h.rns (fun b hb => hk b (own_lt h.rns b hb) (own_neT h.rns h.lst (by decide) b hb))) hh1 (by decide),
    fun k hk_ => blk_setN (by rw [hk _ (blk_lt (h.rnB k hk_)) (own_neB h.lst (h.rnB k hk_) (by decide))]; exact (h.rnB k hk_)) hh1 (by decide),
    h.rnG,
    h.rnD,
    own_setN (own_keepK h.chs (fun b hb => hk b (own_lt h.chs b hb) (own_neT h.chs h.lst (by decide) b hb))) hh1 (by decide),
    fun d hd => ((h.qus d hd).keep (fun b hb => hk b ((h.qus d hd).lt b hb) (fun e => absurd (h.dis (d + 4) 2 b hb e) (by omega)))).setN hh1 (by decide),
    h.qB,
    own_setN (own_keepK h.lck (fun b hb => hk b (own_lt h.lck b hb) (own_neT h.lck h.lst (by decide) b hb))) hh1 (by decide),
    own_setN (own_keepK h.grp (fun b hb => hk b (own_lt h.grp b hb) (fun e => absurd (h.dis 0 2 b hb e) (by omega)))) hh1 (by decide),
    own_setN (own_keepK h.cel (fun b hb => hk b (own_lt h.cel b hb) (fun e => absurd (h.dis 1 2 b hb e) (by omega)))) hh1 (by decide),
    own_setN ho hh1 (by decide),
    own_setN (own_keepK h.evs (fun b hb => hk b (own_lt h.evs b hb) (own_neT h.evs h.lst (by decide) b hb))) hh1 (by decide),
    fun p hp => ⟨blk_setN (by rw [hk _ (blk_lt (h.gst p hp).1) (fun e => absurd (h.dis 3 2 _ hp e) (by omega))]; exact (h.gst p hp).1) hh1 (by decide), (h.gst p hp).2⟩,
    fun p hp => ⟨blk_setN (by rw [hk _ (blk_lt (h.gse p hp).1) (own_neB h.lst (h.gse p hp).1 (by decide))]; exact (h.gse p hp).1) hh1 (by decide), (h.gse p hp).2⟩,
    ?_⟩
  · exact blk_set (i := 7) (u := v) hh1
  · have key : ∀ i b, obk { m with nv := v, nn := l } i = some b → (i ≠ 2 ∧ obk m i = some b) ∨ (i = 2 ∧ (obk m 2 = some b ∨ W.heap.size ≤ b)) := by
      intro i b hb
      match i, hb with
      | 0, hb => exact .inl ⟨by decide, hb⟩
      | 1, hb => exact .inl ⟨by decide, hb⟩
      | 2, hb =>
        refine .inr ⟨rfl, ?_⟩
        change v.ownBlock = some b at hb
        rcases hv with hv | ⟨b', hv, hv2⟩
        · left; rw [hv] at hb; exact hb
        · right
          rw [hv] at hb
          have : b' = b := by simpa using hb
          omega
      | 3, hb => exact .inl ⟨by decide, hb⟩
      | c + 4, hb => exact .inl ⟨by omega, hb⟩
    intro i j b hi hj
    rcases key i b hi with ⟨hi1, hi2⟩ | ⟨hi1, hi2⟩ <;> rcases key j b hj with ⟨hj1, hj2⟩ | ⟨hj1, hj2⟩
    · exact h.dis i j b hi2 hj2
    · rcases hj2 with hj2 | hj2
      · rw [hj1]; exact h.dis i 2 b hi2 hj2
      · have := h.obI i b hi2; omega
    · rcases hi2 with hi2 | hi2
      · rw [hi1]; exact h.dis 2 j b hi2 hj2
      · have := h.obI j b hj2; omega
    · rw [hi1, hj1]
/-- A queue is another: longer or shorter, in its own block or in a new one. -/
theorem PM.putQ {o W : World} {g : Nat} {s : Syst} {pa : Option Addr} {pc : Nat} {t : St} {m : PV} {W1 : World} (h : PM o W g s pa pc t m) {hb cap : Nat} (he : m.hv = .slice (some ⟨hb, 0, none⟩) t.held.length cap) (c : Nat) (hc : c < t.held.length) (l : List Int) (v : Value) (hq : Qu W1 v l) (hk : ∀ b, b < W.heap.size → (qn m.qs c).ownBlock ≠ some b → W1.heap[b]? = W.heap[b]?) (hv : v.ownBlock = (qn m.qs c).ownBlock ∨ ∃ b, v.ownBlock = some b ∧ W.heap.size ≤ b) (hbl : Below o.heap.size o W1) : PM o (W1.setCell ⟨hb, c * 3 + 1, none⟩ v) g s pa pc { t with held := t.held.set c l } { m with qs := m.qs.set c v } := by
  have hQ := h.qus c hc
  have hql := h.qB.1
  obtain ⟨hB, cur, hh⟩ := row_is h.chs he (by omega)
  have hh1 : W1.heap[hb]? = some (.cells cur 71 (0, 0)) := by rw [hk hb (blk_lt hh) (Qu.nB hQ hh (by decide))]; exact hh
  refine ⟨hbl.setCell (p := ⟨hb, c * 3 + 1, none⟩) hB _,
    h.pr,
    h.gB,
    blk_setN (by rw [hk _ (blk_lt h.blk) (Qu.nB hQ h.blk (by decide))]; exact h.blk) hh1 (by decide),
    own_setN (own_keepK h.rns (fun b hb => hk b (own_lt h.rns b hb) (fun e => hQ.neT h.rns (by decide) b e hb))) hh1 (by decide),
    fun k hk_ => blk_setN (by rw [hk _ (blk_lt (h.rnB k hk_)) (Qu.nB hQ (h.rnB k hk_) (by decide))]; exact (h.rnB k hk_)) hh1 (by decide),
    h.rnG,
    h.rnD,
    ?_,
    ?_,
    ?_,
    own_setN (own_keepK h.lck (fun b hb => hk b (own_lt h.lck b hb) (fun e => hQ.neT h.lck (by decide) b e hb))) hh1 (by decide),
    own_setN (own_keepK h.grp (fun b hb => hk b (own_lt h.grp b hb) (fun e => absurd (h.dis 0 (c + 4) b hb e) (by omega)))) hh1 (by decide),
    own_setN (own_keepK h.cel (fun b hb => hk b (own_lt h.cel b hb) (fun e => absurd (h.dis 1 (c + 4) b hb e) (by omega)))) hh1 (by decide),
    own_setN (own_keepK h.lst (fun b hb => hk b (own_lt h.lst b hb) (fun e => absurd (h.dis 2 (c + 4) b hb e) (by omega)))) hh1 (by decide),
    own_setN (own_keepK h.evs (fun b hb => hk b (own_lt h.evs b hb) (fun e => hQ.neT h.evs (by decide) b e hb))) hh1 (by decide),
    fun p hp => ⟨blk_setN (by rw [hk _ (blk_lt (h.gst p hp).1) (fun e => absurd (h.dis 3 (c + 4) _ hp e) (by omega))]; exact (h.gst p hp).1) hh1 (by decide), (h.gst p hp).2⟩,
    fun p hp => ⟨blk_setN (by rw [hk _ (blk_lt (h.gse p hp).1) (Qu.nB hQ (h.gse p hp).1 (by decide))]; exact (h.gse p hp).1) hh1 (by decide), (h.gse p hp).2⟩,
    ?_⟩
  · show World.ownsRow _ _ _ _ _ (t.held.set c l).length (chC s { t with held := t.held.set c l } (m.qs.set c v))
    have h1 := own_keepK (w' := W1) h.chs (fun b hb => hk b (own_lt h.chs b hb) (fun e => hQ.neT h.chs (by decide) b e hb))
    rw [chC_q s t m.qs c l v hc hql, List.length_set]
    show World.ownsRow _ _ _ _ m.hv _ _
    rw [he] at h1 ⊢
    exact (h1.stored _ v).1
  · intro d hd
    have hd' : d < t.held.length := by simpa using hd
    show Qu _ (qn (m.qs.set c v) d) ((t.held.set c l).getD d [])
    rw [qn_set _ _ _ _ (by omega)]
    by_cases hcd : c = d
    · subst hcd
      rw [if_pos rfl, Mc.getD_set_eq _ _ _ hc]
      exact hq.setN hh1 (by decide)
    · rw [if_neg hcd, Mc.getD_set_ne _ _ _ hcd]
      exact ((h.qus d hd').keep (fun b hb => hk b ((h.qus d hd').lt b hb) (fun e => absurd (h.dis (d + 4) (c + 4) b hb e) (by omega)))).setN hh1 (by decide)
  · refine ⟨by simpa using hql, fun d b hd => ?_⟩
    change (qn (m.qs.set c v) d).ownBlock = some b at hd
    rw [qn_set _ _ _ _ (by omega)] at hd
    split at hd
    · rcases hv with h3 | ⟨b', h3, h4⟩
      · rw [h3] at hd; exact h.qB.2 c b hd
      · rw [h3] at hd
        have : b' = b := by simpa using hd
        have := h.bl.size
        omega
    · exact h.qB.2 d b hd
  · have key : ∀ i b, obk { m with qs := m.qs.set c v } i = some b → (i ≠ c + 4 ∧ obk m i = some b) ∨ (i = c + 4 ∧ (obk m (c + 4) = some b ∨ W.heap.size ≤ b)) := by
      intro i b hb
      match i, hb with
      | 0, hb => exact .inl ⟨by omega, hb⟩
      | 1, hb => exact .inl ⟨by omega, hb⟩
      | 2, hb => exact .inl ⟨by omega, hb⟩
      | 3, hb => exact .inl ⟨by omega, hb⟩
      | d + 4, hb =>
        change (qn (m.qs.set c v) d).ownBlock = some b at hb
        rw [qn_set _ _ _ _ (by omega)] at hb
        by_cases hcd : c = d
        · rw [if_pos hcd] at hb
          refine .inr ⟨by omega, ?_⟩
          rcases hv with hv | ⟨b', hv, hv2⟩
          · left; rw [hv] at hb; exact hb
          · right
            rw [hv] at hb
            have : b' = b := by simpa using hb
            omega
        · rw [if_neg hcd] at hb
          exact .inl ⟨by omega, hb⟩
    intro i j b hi hj
    rcases key i b hi with ⟨hi1, hi2⟩ | ⟨hi1, hi2⟩ <;> rcases key j b hj with ⟨hj1, hj2⟩ | ⟨hj1, hj2⟩
    · exact h.dis i j b hi2 hj2
    · rcases hj2 with hj2 | hj2
      · rw [hj1]; exact h.dis i (c + 4) b hi2 hj2
      · have := h.obI i b hi2; omega
    · rcases hi2 with hi2 | hi2
      · rw [hi1]; exact h.dis (c + 4) j b hi2 hj2
      · have := h.obI j b hj2; omega
    · rw [hi1, hj1]
/-- An event more. -/
theorem PM.addEv {o W : World} {g : Nat} {s : Syst} {pa : Option Addr} {pc : Nat} {t : St} {m : PV} {W1 : World} (h : PM o W g s pa pc t m) (e : Ev) (v : Value) (ho : W1.ownsRow o.heap.size 36 5 v (t.evs.length + 1) (evC t.evs ++ evC [e])) (hk : ∀ b, b < W.heap.size → m.ev.ownBlock ≠ some b → W1.heap[b]? = W.heap[b]?) (hbl : Below o.heap.size o W1) : PM o (W1.setCell ⟨g, 6, none⟩ v) g s pa pc { t with evs := t.evs ++ [e] } { m with ev := v } := by
  have hh1 : W1.heap[g]? = some (.cells (mpC s pa pc m) 58 (0, 0)) := by rw [hk g (blk_lt h.blk) (own_neB h.evs h.blk (by decide))]; exact h.blk
  refine ⟨hbl.setCell (p := ⟨g, 6, none⟩) h.gB _,
    h.pr,
    h.gB,
    ?_,
    own_setN (own_keepK h.rns (fun b hb => hk b (own_lt h.rns b hb) (own_neT h.rns h.evs (by decide) b hb))) hh1 (by decide),
    fun k hk_ => blk_setN (by rw [hk _ (blk_lt (h.rnB k hk_)) (own_neB h.evs (h.rnB k hk_) (by decide))]; exact (h.rnB k hk_)) hh1 (by decide),
    h.rnG,
    h.rnD,
    own_setN (own_keepK h.chs (fun b hb => hk b (own_lt h.chs b hb) (own_neT h.chs h.evs (by decide) b hb))) hh1 (by decide),
    fun d hd => ((h.qus d hd).keep (fun b hb => hk b ((h.qus d hd).lt b hb) ((h.qus d hd).neT h.evs (by decide) b hb))).setN hh1 (by decide),
    h.qB,
    own_setN (own_keepK h.lck (fun b hb => hk b (own_lt h.lck b hb) (own_neT h.lck h.evs (by decide) b hb))) hh1 (by decide),
    own_setN (own_keepK h.grp (fun b hb => hk b (own_lt h.grp b hb) (own_neT h.grp h.evs (by decide) b hb))) hh1 (by decide),
    own_setN (own_keepK h.cel (fun b hb => hk b (own_lt h.cel b hb) (own_neT h.cel h.evs (by decide) b hb))) hh1 (by decide),
    own_setN (own_keepK h.lst (fun b hb => hk b (own_lt h.lst b hb) (own_neT h.lst h.evs (by decide) b hb))) hh1 (by decide),
    ?_,
    fun p hp => ⟨blk_setN (by rw [hk _ (blk_lt (h.gst p hp).1) (own_neB h.evs (h.gst p hp).1 (by decide))]; exact (h.gst p hp).1) hh1 (by decide), (h.gst p hp).2⟩,
    fun p hp => ⟨blk_setN (by rw [hk _ (blk_lt (h.gse p hp).1) (own_neB h.evs (h.gse p hp).1 (by decide))]; exact (h.gse p hp).1) hh1 (by decide), (h.gse p hp).2⟩,
    h.dis⟩
  · exact blk_set (i := 6) (u := v) hh1
  · show World.ownsRow _ _ _ _ _ (t.evs ++ [e]).length (evC (t.evs ++ [e]))
    rw [List.length_append, evC, flC_append]
    exact own_setN ho hh1 (by decide)
/-- A runner more. -/
theorem PM.addRn {o W : World} {g : Nat} {s : Syst} {pa : Option Addr} {pc : Nat} {t : St} {m : PV} {W1 : World} (h : PM o W g s pa pc t m) (r : Rn) (pb : Nat) (v : Value) (ho : W1.ownsRow o.heap.size 72 1 v (t.rns.length + 1) (m.ps.map ptr ++ [ptr pb])) (hk : ∀ b, b < W.heap.size → m.rv.ownBlock ≠ some b → W1.heap[b]? = W.heap[b]?) (hbl : Below o.heap.size o W1) (hpb : W1.heap[pb]? = some (.cells (rpC s m.iv r) 75 (0, 0))) (hpl : ∀ k, k < t.rns.length → m.ps.getD k 0 ≠ pb) (hpo : o.heap.size ≤ pb) : PM o (W1.setCell ⟨g, 1, none⟩ v) g s pa pc { t with rns := t.rns ++ [r] } { m with rv := v, ps := m.ps ++ [pb] } := by
  have hh1 : W1.heap[g]? = some (.cells (mpC s pa pc m) 58 (0, 0)) := by rw [hk g (blk_lt h.blk) (own_neB h.rns h.blk (by decide))]; exact h.blk
  have hpl2 : m.ps.length = t.rns.length := by have := h.rns.1; simpa using this
  have hD : ∀ k, k < t.rns.length + 1 → (k < t.rns.length ∧ (m.ps ++ [pb]).getD k 0 = m.ps.getD k 0) ∨ (k = t.rns.length ∧ (m.ps ++ [pb]).getD k 0 = pb) := fun k hk => by
    rcases Nat.lt_or_ge k t.rns.length with hlt | hge
    · exact .inl ⟨hlt, by rw [List.getD_eq_getElem?_getD, List.getElem?_append_left (by omega), ← List.getD_eq_getElem?_getD]⟩
    · have : k = m.ps.length := by omega
      exact .inr ⟨by omega, by rw [this]; simp [List.getD_eq_getElem?_getD]⟩
  refine ⟨hbl.setCell (p := ⟨g, 1, none⟩) h.gB _,
    h.pr,
    h.gB,
    ?_,
    ?_,
    ?_,
    ?_,
    ?_,
    own_setN (own_keepK h.chs (fun b hb => hk b (own_lt h.chs b hb) (own_neT h.chs h.rns (by decide) b hb))) hh1 (by decide),
    fun d hd => ((h.qus d hd).keep (fun b hb => hk b ((h.qus d hd).lt b hb) ((h.qus d hd).neT h.rns (by decide) b hb))).setN hh1 (by decide),
    h.qB,
    own_setN (own_keepK h.lck (fun b hb => hk b (own_lt h.lck b hb) (own_neT h.lck h.rns (by decide) b hb))) hh1 (by decide),
    own_setN (own_keepK h.grp (fun b hb => hk b (own_lt h.grp b hb) (own_neT h.grp h.rns (by decide) b hb))) hh1 (by decide),
    own_setN (own_keepK h.cel (fun b hb => hk b (own_lt h.cel b hb) (own_neT h.cel h.rns (by decide) b hb))) hh1 (by decide),
    own_setN (own_keepK h.lst (fun b hb => hk b (own_lt h.lst b hb) (own_neT h.lst h.rns (by decide) b hb))) hh1 (by decide),
    own_setN (own_keepK h.evs (fun b hb => hk b (own_lt h.evs b hb) (own_neT h.evs h.rns (by decide) b hb))) hh1 (by decide),
    fun p hp => ⟨blk_setN (by rw [hk _ (blk_lt (h.gst p hp).1) (own_neB h.rns (h.gst p hp).1 (by decide))]; exact (h.gst p hp).1) hh1 (by decide), (h.gst p hp).2⟩,
    fun p hp => ⟨blk_setN (by rw [hk _ (blk_lt (h.gse p hp).1) (own_neB h.rns (h.gse p hp).1 (by decide))]; exact (h.gse p hp).1) hh1 (by decide), (h.gse p hp).2⟩,
    h.dis⟩
  · exact blk_set (i := 1) (u := v) hh1
  · show World.ownsRow _ _ _ _ _ (t.rns ++ [r]).length ((m.ps ++ [pb]).map ptr)
    rw [List.length_append, List.map_append]
    exact own_setN ho hh1 (by decide)
  · intro k hk_
    have hk2 : k < t.rns.length + 1 := by simpa using hk_
    show (World.setCell W1 _ v).heap[(m.ps ++ [pb]).getD k 0]? = some (.cells (rpC s m.iv ((t.rns ++ [r]).getD k r0)) _ (0, 0))
    rcases hD k hk2 with ⟨h1, h2⟩ | ⟨h1, h2⟩
    · rw [h2, show (t.rns ++ [r]).getD k r0 = Mc.rn t k by rw [Mc.rn, List.getD_eq_getElem?_getD, List.getElem?_append_left h1, ← List.getD_eq_getElem?_getD]]
      exact blk_setN (by rw [hk _ (blk_lt (h.rnB k h1)) (own_neB h.rns (h.rnB k h1) (by decide))]; exact h.rnB k h1) hh1 (by decide)
    · rw [h2, show (t.rns ++ [r]).getD k r0 = r by rw [h1]; simp [List.getD_eq_getElem?_getD]]
      exact blk_setN hpb hh1 (by decide)
  · intro k hk_
    have hk2 : k < t.rns.length + 1 := by simpa using hk_
    show o.heap.size ≤ (m.ps ++ [pb]).getD k 0
    rcases hD k hk2 with ⟨h1, h2⟩ | ⟨h1, h2⟩
    · rw [h2]; exact h.rnG k h1
    · rw [h2]; exact hpo
  · intro j k hj_ hk_ e
    have hj2 : j < t.rns.length + 1 := by simpa using hj_
    have hk2 : k < t.rns.length + 1 := by simpa using hk_
    change (m.ps ++ [pb]).getD j 0 = (m.ps ++ [pb]).getD k 0 at e
    rcases hD j hj2 with ⟨h1, h2⟩ | ⟨h1, h2⟩ <;> rcases hD k hk2 with ⟨h3, h4⟩ | ⟨h3, h4⟩ <;> rw [h2, h4] at e
    · exact h.rnD j k h1 h3 e
    · exact absurd e (hpl j h1)
    · exact absurd e.symm (hpl k h3)
    · omega
section
variable {o W : World} {g : Nat} {s : Syst} {pa : Option Addr} {pc : Nat} {t : St} {m : PV}
theorem PM.c1 (h : PM o W g s pa pc t m) : W.cell? ⟨g, 1, none⟩ = some m.rv := blk_cell h.blk rfl
theorem PM.c2 (h : PM o W g s pa pc t m) : W.cell? ⟨g, 2, none⟩ = some m.hv := blk_cell h.blk rfl
theorem PM.c3 (h : PM o W g s pa pc t m) : W.cell? ⟨g, 3, none⟩ = some m.gv := blk_cell h.blk rfl
theorem PM.c4 (h : PM o W g s pa pc t m) : W.cell? ⟨g, 4, none⟩ = some m.lv := blk_cell h.blk rfl
theorem PM.c5 (h : PM o W g s pa pc t m) : W.cell? ⟨g, 5, none⟩ = some m.cv := blk_cell h.blk rfl
theorem PM.c6 (h : PM o W g s pa pc t m) : W.cell? ⟨g, 6, none⟩ = some m.ev := blk_cell h.blk rfl
theorem PM.c7 (h : PM o W g s pa pc t m) : W.cell? ⟨g, 7, none⟩ = some m.nv := blk_cell h.blk rfl
theorem PM.c0 (h : PM o W g s pa pc t m) : W.cell? ⟨g, 0, none⟩ = some (.slice pa s.progs.length pc) := blk_cell h.blk rfl
theorem PM.fz (h : PM o W g s pa pc t m) (j : Nat) : W.frozen? ⟨g, j, none⟩ = false := by simp [World.frozen?, h.blk]
theorem PM.lk1 (h : PM o W g s pa pc t m) (c : Nat) (hc : c < t.locked.length) : ∃ b cap, m.lv = .slice (some ⟨b, 0, none⟩) t.locked.length cap ∧ o.heap.size ≤ b ∧ W.frozen? ⟨b, c, none⟩ = false ∧ W.cell? ⟨b, c, none⟩ = some (.bool (t.locked.getD c false)) := by
  obtain ⟨b, cap, e, hB, _, hf, hr⟩ := own_rd h.lck (by omega)
  exact ⟨b, cap, e, hB, hf c, hr c _ (by rw [List.getElem?_map, List.getD_eq_getElem?_getD, List.getElem?_eq_getElem hc]; rfl)⟩
theorem PM.gr1 (h : PM o W g s pa pc t m) (c : Nat) (hc : c < t.groups.length) : ∃ b cap, m.gv = .slice (some ⟨b, 0, none⟩) t.groups.length cap ∧ o.heap.size ≤ b ∧ W.frozen? ⟨b, c, none⟩ = false ∧ W.cell? ⟨b, c, none⟩ = some (.int .i64 (t.groups.getD c 0)) := by
  obtain ⟨b, cap, e, hB, _, hf, hr⟩ := own_rd h.grp (by omega)
  exact ⟨b, cap, e, hB, hf c, hr c _ (by rw [List.getElem?_map, List.getD_eq_getElem?_getD, List.getElem?_eq_getElem hc]; rfl)⟩
theorem PM.ce1 (h : PM o W g s pa pc t m) (c : Nat) (hc : c < t.cells.length) : ∃ b cap, m.cv = .slice (some ⟨b, 0, none⟩) t.cells.length cap ∧ o.heap.size ≤ b ∧ W.frozen? ⟨b, c, none⟩ = false ∧ W.cell? ⟨b, c, none⟩ = some (.int .i64 (t.cells.getD c 0)) := by
  obtain ⟨b, cap, e, hB, _, hf, hr⟩ := own_rd h.cel (by omega)
  exact ⟨b, cap, e, hB, hf c, hr c _ (by rw [List.getElem?_map, List.getD_eq_getElem?_getD, List.getElem?_eq_getElem hc]; rfl)⟩
theorem PM.ch1 (h : PM o W g s pa pc t m) (c : Nat) (hc : c < t.held.length) : ∃ b cap, m.hv = .slice (some ⟨b, 0, none⟩) t.held.length cap ∧ o.heap.size ≤ b ∧ (∀ i, W.frozen? ⟨b, i, none⟩ = false) ∧ W.cell? ⟨b, c * 3, none⟩ = some (.int .i64 (s.rooms.getD c 0)) ∧ W.cell? ⟨b, c * 3 + 1, none⟩ = some (qn m.qs c) ∧ W.cell? ⟨b, c * 3 + 2, none⟩ = some (.bool (t.shut.getD c false)) := by
  obtain ⟨b, cap, e, hB, _, hf, hr⟩ := own_rd h.chs (by omega)
  have hg : ∀ j, j < 3 → (chC s t m.qs)[c * 3 + j]? = some (chV ⟨s.rooms.getD c 0, qn m.qs c, t.shut.getD c false⟩ j) := fun j hj => by
    have := flC_get 3 chV ⟨0, .bool false, false⟩ (chL s t m.qs) c j (by rw [chL_len]; exact hc) hj
    rw [chL_at s t m.qs c hc] at this
    exact this
  exact ⟨b, cap, e, hB, hf, hr _ _ (hg 0 (by omega)), hr _ _ (hg 1 (by omega)), hr _ _ (hg 2 (by omega))⟩
theorem PM.rn1 (h : PM o W g s pa pc t m) (k : Nat) (hk : k < t.rns.length) : ∃ b cap, m.rv = .slice (some ⟨b, 0, none⟩) t.rns.length cap ∧ o.heap.size ≤ b ∧ W.cell? ⟨b, k, none⟩ = some (.pointer (some ⟨m.ps.getD k 0, 0, none⟩)) := by
  obtain ⟨b, cap, e, hB, _, hf, hr⟩ := own_rd h.rns (by omega)
  have hpl2 : m.ps.length = t.rns.length := by have := h.rns.1; simpa using this
  exact ⟨b, cap, e, hB, hr k _ (by rw [List.getElem?_map, List.getD_eq_getElem?_getD, List.getElem?_eq_getElem (by omega)]; rfl)⟩
theorem PM.reg1 (h : PM o W g s pa pc t m) (k : Nat) (hk : k < t.rns.length) (r : Nat) (hr : r < 8) : W.cell? ⟨m.ps.getD k 0, 2 + r, none⟩ = some (.int .i64 (reg t k (r : Int))) := by
  have hb := h.rnB k hk
  have hr' : r = 0 ∨ r = 1 ∨ r = 2 ∨ r = 3 ∨ r = 4 ∨ r = 5 ∨ r = 6 ∨ r = 7 := by omega
  rcases hr' with rfl | rfl | rfl | rfl | rfl | rfl | rfl | rfl <;> exact blk_cell hb rfl
theorem PM.at1 (h : PM o W g s pa pc t m) (k : Nat) (hk : k < t.rns.length) : W.cell? ⟨m.ps.getD k 0, 1, none⟩ = some (.int .i64 (aT s (Mc.rn t k))) ∧ W.cell? ⟨m.ps.getD k 0, 0, none⟩ = some (m.iv (Mc.rn t k).prog.toNat) := ⟨blk_cell (h.rnB k hk) rfl, blk_cell (h.rnB k hk) rfl⟩
theorem PM.rfz (h : PM o W g s pa pc t m) (k : Nat) (hk : k < t.rns.length) (j : Nat) : W.frozen? ⟨m.ps.getD k 0, j, none⟩ = false := by have := h.rnB k hk; simp only [World.frozen?, this]; simp
/-- A register is set. -/
theorem PM.setReg (h : PM o W g s pa pc t m) (k : Nat) (hk : k < t.rns.length) (r : Nat) (hr : r < 8) (h8 : (Mc.rn t k).regs.length = 8) (x : Int) : PM o (W.setCell ⟨m.ps.getD k 0, 2 + r, none⟩ (.int .i64 x)) g s pa pc { t with rns := Mc.setR t k (r : Int) x } m := by
  refine h.setRn k hk _ _ _ ?_
  show rpC s m.iv { Mc.rn t k with regs := (Mc.rn t k).regs.set ((r : Int).toNat) x } = _
  rw [Int.toNat_natCast]
  unfold rpC
  have hr' : r = 0 ∨ r = 1 ∨ r = 2 ∨ r = 3 ∨ r = 4 ∨ r = 5 ∨ r = 6 ∨ r = 7 := by omega
  have e : ∀ j, ((Mc.rn t k).regs.set r x).getD j 0 = if r = j then x else (Mc.rn t k).regs.getD j 0 := fun j => by
    rw [Mc.getD_set]
    by_cases hj : r = j
    · rw [if_pos ⟨hj, by omega⟩, if_pos hj]
    · rw [if_neg (fun h => hj h.1), if_neg hj]
  simp only [e]
  rcases hr' with rfl | rfl | rfl | rfl | rfl | rfl | rfl | rfl <;> rfl
end
end LW
end Go.Proofs.Ytheifjakpdeiaaa
