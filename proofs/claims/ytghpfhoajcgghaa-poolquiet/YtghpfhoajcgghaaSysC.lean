/-
  A state as it can be read in memory; what over and can of the document give.
-/
import Derived.Test.YtghpfhoajcgghaaSysV
namespace Go.Proofs.Ytghpfhoajcgghaa
open Go.RowKit
set_option linter.unusedVariables false
set_option linter.unusedSimpArgs false
namespace LW
open Mc
/-- The j-th cell of a runner. -/
def rnV (r : Rn) (j : Nat) : Value := if j = 0 then .int .i64 r.prog else if j = 1 then .int .i64 r.pos else if j < 10 then .int .i64 (r.regs.getD (j - 2) 0) else .bool r.ended
/-- A state, as far as it can be read: at g the world of the document's machine. -/
structure RdM (W : World) (g : Nat) (s : Syst) (t : St) : Prop where
  sy : ∃ pa pc ra rc, W.cell? ⟨g, 0, none⟩ = some (.slice pa s.progs.length pc) ∧ W.cell? ⟨g, 1, none⟩ = some (.slice ra s.rooms.length rc) ∧ SM W s pa ra
  rn : ∃ b c, W.cell? ⟨g, 5, none⟩ = some (.slice (some ⟨b, 0, none⟩) t.rns.length c) ∧ ∀ k, k < t.rns.length → ∀ j, j < 11 → W.cell? ⟨b, k * 11 + j, none⟩ = some (rnV (Mc.rn t k) j)
  hl : ∃ a c, W.cell? ⟨g, 6, none⟩ = some (.slice a t.held.length c) ∧ (t.held = [] ∨ ∃ b, a = some ⟨b, 0, none⟩ ∧ ∀ k, k < t.held.length → ∃ A K, W.cell? ⟨b, k, none⟩ = some (.slice A (t.held.getD k []).length K))
  sh : ∃ a c, W.cell? ⟨g, 7, none⟩ = some (.slice a t.shut.length c) ∧ (t.shut = [] ∨ ∃ b, a = some ⟨b, 0, none⟩ ∧ ∀ k, k < t.shut.length → W.cell? ⟨b, k, none⟩ = some (.bool (t.shut.getD k false)))
  lk : ∃ a c, W.cell? ⟨g, 8, none⟩ = some (.slice a t.locked.length c) ∧ (t.locked = [] ∨ ∃ b, a = some ⟨b, 0, none⟩ ∧ ∀ k, k < t.locked.length → W.cell? ⟨b, k, none⟩ = some (.bool (t.locked.getD k false)))
  gr : ∃ a c, W.cell? ⟨g, 9, none⟩ = some (.slice a t.groups.length c) ∧ (t.groups = [] ∨ ∃ b, a = some ⟨b, 0, none⟩ ∧ ∀ k, k < t.groups.length → W.cell? ⟨b, k, none⟩ = some (.int .i64 (t.groups.getD k 0)))
  ev : ∃ a c, W.cell? ⟨g, 11, none⟩ = some (.slice a t.evs.length c)
theorem RdM.below {w w' : World} {g : Nat} {s : Syst} {t : St} (h : RdM w g s t) (hb : Below w.heap.size w w') : RdM w' g s t := by
  obtain ⟨pa, pc, ra, rc, y1, y2, y3⟩ := h.sy
  obtain ⟨b1, c1, r1, r2⟩ := h.rn
  obtain ⟨a2, c2, h1, h2⟩ := h.hl
  obtain ⟨a3, c3, s1, s2⟩ := h.sh
  obtain ⟨a4, c4, l1, l2⟩ := h.lk
  obtain ⟨a5, c5, g1, g2⟩ := h.gr
  obtain ⟨a6, c6, e1⟩ := h.ev
  refine ⟨⟨pa, pc, ra, rc, keepC hb y1, keepC hb y2, y3.below hb⟩, ⟨b1, c1, keepC hb r1, fun k hk j hj => keepC hb (r2 k hk j hj)⟩, ⟨a2, c2, keepC hb h1, ?_⟩, ⟨a3, c3, keepC hb s1, ?_⟩, ⟨a4, c4, keepC hb l1, ?_⟩, ⟨a5, c5, keepC hb g1, ?_⟩, ⟨a6, c6, keepC hb e1⟩⟩
  · rcases h2 with h2 | ⟨b, e, hc⟩
    · exact .inl h2
    · exact .inr ⟨b, e, fun k hk => by obtain ⟨A, K, h3⟩ := hc k hk; exact ⟨A, K, keepC hb h3⟩⟩
  · rcases s2 with h2 | ⟨b, e, hc⟩
    · exact .inl h2
    · exact .inr ⟨b, e, fun k hk => keepC hb (hc k hk)⟩
  · rcases l2 with h2 | ⟨b, e, hc⟩
    · exact .inl h2
    · exact .inr ⟨b, e, fun k hk => keepC hb (hc k hk)⟩
  · rcases g2 with h2 | ⟨b, e, hc⟩
    · exact .inl h2
    · exact .inr ⟨b, e, fun k hk => keepC hb (hc k hk)⟩
set_option maxRecDepth 100000 in
set_option maxHeartbeats 2000000 in
theorem rover (g : Nat) (s : Syst) (t : St) (w : World) (h : RdM w g s t) (hr : t.rns.length ≤ 512) :
    Calls Try.prog 37 #[.pointer (some ⟨g, 0, none⟩)] w fun e w' => e = .returned (.bool (Mc.over t)) ∧ w = w' := by
  obtain ⟨b, c, r1, r2⟩ := h.rn
  have HE : Hid (∀ k, k < t.rns.length → w.cell? ⟨b, k * 11 + 10, none⟩ = some (.bool (Mc.rn t k).ended)) := fun k hk => r2 k hk 10 (by omega)
  have HO : Hid (Mc.over t = true ↔ ∀ k, k < t.rns.length → (Mc.rn t k).ended = true) := by
    show _ ↔ _
    unfold Mc.over Mc.rn
    rw [List.all_eq_true]
    constructor
    · intro h k hk
      rw [List.getD_eq_getElem?_getD, List.getElem?_eq_getElem hk]
      exact h _ (List.getElem_mem hk)
    · intro h x hx
      obtain ⟨k, hk, rfl⟩ := List.mem_iff_getElem.1 hx
      have := h k hk
      rwa [List.getD_eq_getElem?_getD, List.getElem?_eq_getElem hk] at this
  clear r2 h
  generalize Mc.over t = O at *
  generalize t.rns.length = n at *
  go_enter Try.func37, Try.ntmps37
  go_wp2
  go_loopw [3] (fun i wr => ∃ k : Nat, k ≤ n ∧ i = .int .i64 (k : Int) ∧ Hid (∀ q, q < k → (Mc.rn t q).ended = true) ∧ wr = w) (fun i wr => n - (intOf i).toNat)
  case atStart => exact ⟨0, Nat.zero_le _, rfl, TW.hide (fun q hq => by omega), rfl⟩
  case round =>
    obtain ⟨k, hk, rfl, HQ, hww⟩ := hrel
    have hww' : w = wr := hww.symm
    clear hww
    subst hww'
    by_cases hlt : k < n
    · have hk1 : (k : Int) < (n : Int) := by omega
      have hk0 : (0 : Int) ≤ (k : Int) := by omega
      have hc := HE.out k hlt
      have HLT := TW.hide hlt
      obtain ⟨en, hen⟩ : ∃ en, (Mc.rn t k).ended = en := ⟨_, rfl⟩
      rw [hen] at hc
      have HEN := TW.hide hen
      clear hlt hen
      cases en with
      | true =>
        go_wp2
        go_roundw
        case rel =>
          refine ⟨k + 1, HLT.out, by go_num, TW.hide (fun q hq => ?_), by trivial⟩
          rcases Nat.lt_or_ge q k with h | h
          · exact HQ.out q h
          · obtain rfl : q = k := by omega
            exact HEN.out
        case measure => simp [intOf]; have := HLT.out; omega
      | false =>
        have HN : Hid (O = false) := by
          show _ = _
          cases hO : O with
          | false => rfl
          | true =>
            have h1 := HO.out.1 hO k HLT.out
            rw [HEN.out] at h1
            cases h1
        go_wp2
        go_ret
        exact ⟨by rw [HN.out]; rfl, rfl⟩
    · have hkn : n = k := by omega
      subst hkn
      have HY : Hid (O = true) := HO.out.2 HQ.out
      go_wp2
      go_ret
      exact ⟨by rw [HY.out]; rfl, rfl⟩
end LW
end Go.Proofs.Ytghpfhoajcgghaa
