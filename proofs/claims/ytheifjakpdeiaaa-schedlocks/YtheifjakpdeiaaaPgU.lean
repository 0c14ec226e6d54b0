/-
  What is done to channels, locks and groups.
-/
import Derived.Test.YtheifjakpdeiaaaPgT
namespace Go.Proofs.Ytheifjakpdeiaaa
open Go.RowKit
set_option linter.unusedVariables false
set_option linter.unusedSimpArgs false
namespace LW
open Mc
/-- What a step that can't be done gives up with. -/
abbrev flP (why : Int) : List PanicEntry := [{ v := .iface 77 (.agg #[.int .i64 why]), recovered := false }]
theorem PM.chAt {o W : World} {g : Nat} {s : Syst} {pa : Option Addr} {pc : Nat} {t : St} {m : PV} (h : PM o W g s pa pc t m) (c : Nat) (hc : c < t.held.length) {b cap : Nat} (e : m.hv = .slice (some ⟨b, 0, none⟩) t.held.length cap) : (∀ i, W.frozen? ⟨b, i, none⟩ = false) ∧ W.cell? ⟨b, c * 3, none⟩ = some (.int .i64 (s.rooms.getD c 0)) ∧ W.cell? ⟨b, c * 3 + 1, none⟩ = some (qn m.qs c) ∧ W.cell? ⟨b, c * 3 + 2, none⟩ = some (.bool (t.shut.getD c false)) := by
  obtain ⟨b', cap', e', _, h1, h2, h3, h4⟩ := h.ch1 c hc
  rw [e] at e'
  injection e' with e1 _ _
  injection e1 with e1
  injection e1 with e1
  subst e1
  exact ⟨h1, h2, h3, h4⟩
/-- What put leaves. -/
def PutQ (o : World) (g : Nat) (s : Syst) (pa : Option Addr) (pc : Nat) (t : St) (m : PV) (c : Nat) (v : Int) : Ending → World → Prop := fun e w' => (t.shut.getD c false = true ∧ e = .panicked (flP 131) ∧ PM o w' g s pa pc t m) ∨ (t.shut.getD c false = false ∧ e = .returned (.tuple #[]) ∧ ∃ q, PM o w' g s pa pc { t with held := t.held.set c (t.held.getD c [] ++ [v]) } { m with qs := m.qs.set c q })
set_option maxRecDepth 100000 in
set_option maxHeartbeats 4000000 in
theorem pput {o : World} {g : Nat} {s : Syst} {pa : Option Addr} {pc : Nat} {t : St} {m : PV} (c : Nat) (v : Int) (hb cap : Nat) (w : World) (h : PM o w g s pa pc t m) (hc : c < t.held.length) (e2 : m.hv = .slice (some ⟨hb, 0, none⟩) t.held.length cap) (hq : (t.held.getD c []).length + 1 ≤ 1048576) :
    Calls Try.prog 41 #[.pointer (some ⟨hb, c * 3, none⟩), .int .i64 v] w (PutQ o g s pa pc t m c v) := by
  obtain ⟨fz, x0, x1, x2⟩ := h.chAt c hc e2
  obtain ⟨qa, qc, eq⟩ := (h.qus c hc).sl
  obtain ⟨POST, hP⟩ : ∃ P, P = PutQ o g s pa pc t m c v := ⟨_, rfl⟩
  have hHP : ∀ e w', ((t.shut.getD c false = true ∧ e = .panicked (flP 131) ∧ PM o w' g s pa pc t m) ∨ (t.shut.getD c false = false ∧ e = .returned (.tuple #[]) ∧ ∃ q, PM o w' g s pa pc { t with held := t.held.set c (t.held.getD c [] ++ [v]) } { m with qs := m.qs.set c q })) → POST e w' := fun e w' h => by rw [hP]; exact h
  have HP := TW.hide hHP
  rw [← hP]
  clear hP hHP
  have hA : Below w.heap.size w (w.alloc (.cells #[.int .i64 v] 3)) := (Below.refl _ _).alloc (Nat.le_refl _) _
  have HMa := TW.hide (h.below hA)
  have HM := TW.hide h
  have HF : Hid (∀ v' w', Qu w' v' (t.held.getD c [] ++ [v]) → (∀ b, b < (w.alloc (.cells #[.int .i64 v] 3)).heap.size → (qn m.qs c).ownBlock ≠ some b → w'.heap[b]? = (w.alloc (.cells #[.int .i64 v] 3)).heap[b]?) → (v'.ownBlock = (qn m.qs c).ownBlock ∨ ∃ b, v'.ownBlock = some b ∧ (w.alloc (.cells #[.int .i64 v] 3)).heap.size ≤ b) → (∀ B o, Below B o (w.alloc (.cells #[.int .i64 v] 3)) → B ≤ (w.alloc (.cells #[.int .i64 v] 3)).heap.size → (∀ b, (qn m.qs c).ownBlock = some b → B ≤ b) → Below B o w') → (∃ xa xc, v' = .slice xa ((t.held.getD c []).length + 1) xc) ∧ (PM o (w'.setCell ⟨hb, c * 3 + 1, none⟩ v') g s pa pc { t with held := t.held.set c (t.held.getD c [] ++ [v]) } { m with qs := m.qs.set c v' }) ∧ w'.frozen? ⟨hb, c * 3 + 1, none⟩ = false ∧ ∃ z, w'.cell? ⟨hb, c * 3 + 1, none⟩ = some z) := fun v' w' h1 h2 h3 h4 => by
    have hB := h4 _ _ HMa.out.bl HMa.out.bl.size (fun b hb => HMa.out.qB.2 c b hb)
    obtain ⟨_, cur, hh⟩ := row_is HMa.out.chs e2 (by omega)
    have hk : w'.heap[hb]? = (w.alloc (.cells #[.int .i64 v] 3)).heap[hb]? := h2 hb (blk_lt hh) (Qu.nB (HMa.out.qus c hc) hh (by decide))
    obtain ⟨f1, _, f2, _⟩ := HMa.out.chAt c hc e2
    refine ⟨?_, HMa.out.putQ e2 c hc _ v' h1 h2 h3 hB, by rw [World.frozen?_of_block hk]; exact f1 _, _, by rw [World.cell?_of_block hk]; exact f2⟩
    obtain ⟨xa, xc, e⟩ := h1.sl
    exact ⟨xa, xc, by rw [e, List.length_append, List.length_singleton]⟩
  obtain ⟨n1, hn1⟩ : ∃ n1, (t.held.getD c []).length + 1 = n1 := ⟨_, rfl⟩
  have HQ := TW.hide (HMa.out.qus c hc)
  rw [eq] at x1 HF HQ
  rw [hn1] at HF
  have HQl := TW.hide hq
  generalize t.shut.getD c false = sh at *
  generalize t.held.getD c [] = XS at *
  have hx1 : (w.alloc (.cells #[.int .i64 v] 3)).cell? ⟨hb, c * 3 + 1, none⟩ = some (.slice qa XS.length qc) := keepC hA x1
  clear h e2 eq hA hq hn1
  go_enter Try.func41, Try.ntmps41
  cases sh with
  | true =>
    go_wp2
    exact ⟨rfl, HP.out _ _ (.inl ⟨by trivial, rfl, HM.out⟩)⟩
  | false =>
    go_wp2_with (at_builtin; refine wpList_plain rfl fun KX hKX => ?_; refine wp_append_q _ _ _ (by rfl) (.slice qa XS.length qc) XS (by rfl) HQ.out w.heap.size v (by rfl) (blk_cell (heap_alloc_new w _) rfl) HQl.out ?_; (intro v' w' hQ' hk' hs' hv' hbl'); obtain ⟨⟨xa, xc, rfl⟩, hM', fz', z', cz'⟩ := HF.out v' w' hQ' hk' hv' hbl'; refine hKX _ _ ?_; have HM' := TW.hide hM'; clear hQ' hk' hs' hv' hbl' hM' hKX HF)
    go_end0
    exact HP.out _ _ (.inr ⟨by trivial, rfl, _, HM'.out⟩)
/-- What take leaves. -/
def TakQ (o : World) (g : Nat) (s : Syst) (pa : Option Addr) (pc : Nat) (t : St) (m : PV) (c : Nat) : Ending → World → Prop := fun e w' => (t.held.getD c [] = [] ∧ e = .returned (.tuple #[.int .i64 0, .bool false]) ∧ PM o w' g s pa pc t m) ∨ (t.held.getD c [] ≠ [] ∧ e = .returned (.tuple #[.int .i64 ((t.held.getD c []).headD 0), .bool true]) ∧ ∃ q, PM o w' g s pa pc { t with held := t.held.set c (t.held.getD c []).tail } { m with qs := m.qs.set c q })
set_option maxRecDepth 100000 in
set_option maxHeartbeats 4000000 in
theorem ptakeI {o : World} {g : Nat} {s : Syst} {pa : Option Addr} {pc : Nat} {t : St} {m : PV} (c hb cap : Nat) (w : World) (gi : Nat) (ty : TypeId) (ci : Array Value) (ht : ty ≠ 71) (_ht2 : ty ≠ 3) (hI : w.heap[gi]? = some (.cells ci ty (0, 0))) (h : PM o w g s pa pc t m) (hc : c < t.held.length) (e2 : m.hv = .slice (some ⟨hb, 0, none⟩) t.held.length cap) (hq : (t.held.getD c []).length ≤ 1048576) :
    Calls Try.prog 42 #[.pointer (some ⟨hb, c * 3, none⟩)] w fun e w' => TakQ o g s pa pc t m c e w' ∧ w'.heap[gi]? = some (.cells ci ty (0, 0)) := by
  obtain ⟨fz, x0, x1, x2⟩ := h.chAt c hc e2
  obtain ⟨qa, qc, eq⟩ := (h.qus c hc).sl
  have hQ := h.qus c hc
  rw [eq] at x1 hQ
  have HM := TW.hide h
  have HII := TW.hide hI
  have HIS : Hid (∀ j u, (w.setCell ⟨hb, j, none⟩ u).heap[gi]? = some (.cells ci ty (0, 0))) := fun j u => by
    obtain ⟨_, cur, hh⟩ := row_is h.chs e2 (by omega)
    exact blk_setN hI hh ht
  obtain ⟨POST, hP⟩ : ∃ P : Ending → World → Prop, P = fun e w' => TakQ o g s pa pc t m c e w' ∧ w'.heap[gi]? = some (.cells ci ty (0, 0)) := ⟨_, rfl⟩
  have hHP : ∀ e w', ((t.held.getD c [] = [] ∧ e = .returned (.tuple #[.int .i64 0, .bool false]) ∧ PM o w' g s pa pc t m) ∨ (t.held.getD c [] ≠ [] ∧ e = .returned (.tuple #[.int .i64 ((t.held.getD c []).headD 0), .bool true]) ∧ ∃ q, PM o w' g s pa pc { t with held := t.held.set c (t.held.getD c []).tail } { m with qs := m.qs.set c q })) → w'.heap[gi]? = some (.cells ci ty (0, 0)) → POST e w' := fun e w' h h2 => by rw [hP]; exact ⟨h, h2⟩
  have HP := TW.hide hHP
  rw [← hP]
  clear hP hHP
  by_cases hz : t.held.getD c [] = []
  · have kz : (((t.held.getD c []).length : Int) == 0) = true := by rw [hz]; rfl
    have HZ := TW.hide hz
    clear hz h e2 eq hQ hq
    generalize t.held.getD c [] = XS at *
    generalize XS.length = ql at *
    go_enter Try.func42, Try.ntmps42
    go_wp2
    exact HP.out _ _ (.inl ⟨HZ.out, rfl, HM.out⟩) HII.out
  · have hp : 0 < (t.held.getD c []).length := List.length_pos_iff.2 hz
    obtain ⟨qb, qo, qc', hve, hqc, xq⟩ := hQ.cell hp
    injection hve with e1 _ e3
    subst e1
    subst e3
    have hT := hQ.tail hp
    have HNe := TW.hide hz
    have HV : Hid ((if qc = 1 then some (⟨qb, qo, none⟩ : Addr) else some ⟨qb, qo + 1, none⟩) = if qc = 1 then some ⟨qb, qo, none⟩ else some ⟨qb, qo + 1, none⟩) := rfl
    have HM1 : Hid (PM o (w.setCell ⟨hb, c * 3 + 1, none⟩ (.slice (if qc = 1 then some ⟨qb, qo, none⟩ else some ⟨qb, qo + 1, none⟩) ((t.held.getD c []).length - 1) (qc - 1))) g s pa pc { t with held := t.held.set c (t.held.getD c []).tail } { m with qs := m.qs.set c (.slice (if qc = 1 then some ⟨qb, qo, none⟩ else some ⟨qb, qo + 1, none⟩) ((t.held.getD c []).length - 1) (qc - 1)) }) := h.putQ e2 c hc _ _ hT (fun _ _ _ => rfl) (.inl (by rw [eq]; by_cases h1 : qc = 1 <;> simp [h1, Value.ownBlock])) h.bl
    rw [← headD_getD] at xq
    clear h e2 eq hQ hT HM hz
    generalize t.held.getD c [] = XS at *
    generalize XS.headD 0 = v0 at *
    generalize hql : XS.length = ql at *
    have kq : ((ql : Int) == 0) = false := by simp; omega
    have qp : (0 : Int) < (ql : Int) := by omega
    have qpn : 0 < ql := by omega
    have hqI : (1 : Int) ≤ (ql : Int) := by omega
    have hqJ : (ql : Int) ≤ (qc : Int) := by omega
    go_enter Try.func42, Try.ntmps42
    by_cases hc1 : qc = 1
    · rw [if_pos hc1] at HM1
      subst hc1
      have hq1 : ql = 1 := by omega
      subst hq1
      go_wp2
      exact HP.out _ _ (.inr ⟨HNe.out, rfl, _, HM1.out⟩) (HIS.out _ _)
    · rw [if_neg hc1] at HM1
      go_wp2
      exact HP.out _ _ (.inr ⟨HNe.out, rfl, _, HM1.out⟩) (HIS.out _ _)
/-- What shut leaves. -/
def ShuQ (o : World) (g : Nat) (s : Syst) (pa : Option Addr) (pc : Nat) (t : St) (m : PV) (c : Nat) : Ending → World → Prop := fun e w' => (t.shut.getD c false = true ∧ e = .panicked (flP 132) ∧ PM o w' g s pa pc t m) ∨ (t.shut.getD c false = false ∧ e = .returned (.tuple #[]) ∧ PM o w' g s pa pc { t with shut := t.shut.set c true } m)
set_option maxRecDepth 100000 in
set_option maxHeartbeats 4000000 in
theorem pshut {o : World} {g : Nat} {s : Syst} {pa : Option Addr} {pc : Nat} {t : St} {m : PV} (c hb cap : Nat) (w : World) (h : PM o w g s pa pc t m) (hc : c < t.held.length) (hl : t.shut.length = t.held.length) (e2 : m.hv = .slice (some ⟨hb, 0, none⟩) t.held.length cap) :
    Calls Try.prog 43 #[.pointer (some ⟨hb, c * 3, none⟩)] w (ShuQ o g s pa pc t m c) := by
  obtain ⟨fz, x0, x1, x2⟩ := h.chAt c hc e2
  have f2 := fz (c * 3 + 2)
  have HM := TW.hide h
  have HM1 := TW.hide (h.setSh e2 c hc hl true)
  generalize hsh : t.shut.getD c false = sh at *
  have HSh := TW.hide hsh
  clear h e2 hsh fz x0 x1
  obtain ⟨POST, hP⟩ : ∃ P, P = ShuQ o g s pa pc t m c := ⟨_, rfl⟩
  have HP := TW.hide hP
  rw [← hP]
  clear hP
  go_enter Try.func43, Try.ntmps43
  cases sh with
  | true =>
    go_wp2
    rw [HP.out]
    exact ⟨rfl, .inl ⟨HSh.out, rfl, HM.out⟩⟩
  | false =>
    go_wp2
    go_end0
    rw [HP.out]
    exact .inr ⟨HSh.out, rfl, HM1.out⟩
/-- What free leaves. -/
def FreQ (o : World) (g : Nat) (s : Syst) (pa : Option Addr) (pc : Nat) (t : St) (m : PV) (c : Nat) : Ending → World → Prop := fun e w' => (t.locked.getD c false = false ∧ e = .panicked (flP 133) ∧ PM o w' g s pa pc t m) ∨ (t.locked.getD c false = true ∧ e = .returned (.tuple #[]) ∧ PM o w' g s pa pc { t with locked := t.locked.set c false } m)
set_option maxRecDepth 100000 in
set_option maxHeartbeats 4000000 in
theorem pfree {o : World} {g : Nat} {s : Syst} {pa : Option Addr} {pc : Nat} {t : St} {m : PV} (c : Nat) (w : World) (h : PM o w g s pa pc t m) (hc : c < t.locked.length) :
    Calls Try.prog 44 #[.pointer (some ⟨g, 0, none⟩), .int .i64 (c : Int)] w (FreQ o g s pa pc t m c) := by
  obtain ⟨lb, lcp, e4, _, fz, x0⟩ := h.lk1 c hc
  have HM := TW.hide h
  have HM1 := TW.hide (h.setLk e4 (by omega) c false)
  have c4 := h.c4
  rw [e4] at c4
  have q1 : (c : Int) < (t.locked.length : Int) := by omega
  have q0 : (0 : Int) ≤ (c : Int) := by omega
  generalize hsh : t.locked.getD c false = sh at *
  have HSh := TW.hide hsh
  clear h e4 hsh hc
  obtain ⟨POST, hP⟩ : ∃ P, P = FreQ o g s pa pc t m c := ⟨_, rfl⟩
  have HP := TW.hide hP
  rw [← hP]
  clear hP
  generalize t.locked.length = n at *
  go_enter Try.func44, Try.ntmps44
  cases sh with
  | false =>
    go_wp2
    rw [HP.out]
    exact ⟨rfl, .inl ⟨HSh.out, rfl, HM.out⟩⟩
  | true =>
    go_wp2
    go_end0
    rw [HP.out]
    exact .inr ⟨HSh.out, rfl, HM1.out⟩
/-- What grow leaves. -/
def GroQ (o : World) (g : Nat) (s : Syst) (pa : Option Addr) (pc : Nat) (t : St) (m : PV) (c : Nat) (x : Int) : Ending → World → Prop := fun e w' => (x < 0 ∧ e = .panicked (flP 134) ∧ PM o w' g s pa pc t m) ∨ (¬ x < 0 ∧ e = .returned (.tuple #[]) ∧ PM o w' g s pa pc { t with groups := t.groups.set c x } m)
set_option maxRecDepth 100000 in
set_option maxHeartbeats 4000000 in
theorem pgrow {o : World} {g : Nat} {s : Syst} {pa : Option Addr} {pc : Nat} {t : St} {m : PV} (c : Nat) (x : Int) (w : World) (h : PM o w g s pa pc t m) (hc : c < t.groups.length) :
    Calls Try.prog 45 #[.pointer (some ⟨g, 0, none⟩), .int .i64 (c : Int), .int .i64 x] w (GroQ o g s pa pc t m c x) := by
  obtain ⟨lb, lcp, e4, _, fz, x0⟩ := h.gr1 c hc
  have HM := TW.hide h
  have HM1 := TW.hide (h.setGr e4 (by omega) c x)
  have c3 := h.c3
  rw [e4] at c3
  have q1 : (c : Int) < (t.groups.length : Int) := by omega
  have q0 : (0 : Int) ≤ (c : Int) := by omega
  clear h e4 hc
  obtain ⟨POST, hP⟩ : ∃ P, P = GroQ o g s pa pc t m c x := ⟨_, rfl⟩
  have HP := TW.hide hP
  rw [← hP]
  clear hP
  generalize t.groups.length = n at *
  go_enter Try.func45, Try.ntmps45
  by_cases hx : x < 0
  · have HX := TW.hide hx
    go_wp2
    rw [HP.out]
    exact ⟨rfl, .inl ⟨HX.out, rfl, HM.out⟩⟩
  · have HX := TW.hide hx
    go_wp2
    go_end0
    rw [HP.out]
    exact .inr ⟨by have := HX.out; omega, rfl, HM1.out⟩
end LW
end Go.Proofs.Ytheifjakpdeiaaa
