/-
  Who is ready, and how a run ends.
-/
import Derived.Test.YtheifjakpdeiaaaPgR
namespace Go.Proofs.Ytheifjakpdeiaaa
open Go.RowKit
set_option linter.unusedVariables false
set_option linter.unusedSimpArgs false
namespace LW
open Mc
/-- Guests and programs are the same. -/
structure SG (m m' : PV) : Prop where
  b : m'.gb = m.gb
  x : m'.gx = m.gx
  e : m'.ge = m.ge
  y : m'.gy = m.gy
  i : m'.iv = m.iv
theorem SG.refl (m : PV) : SG m m := ⟨rfl, rfl, rfl, rfl, rfl⟩
theorem SG.trans {a b c : PV} (h : SG a b) (k : SG b c) : SG a c := ⟨k.b.trans h.b, k.x.trans h.x, k.e.trans h.e, k.y.trans h.y, k.i.trans h.i⟩
theorem PM.ivF {o W : World} {g : Nat} {s : Syst} {pa : Option Addr} {pc : Nat} {t : St} {m : PV} (h : PM o W g s pa pc t m) (hg : Mc.Good s t) (k : Nat) (hk : k < t.rns.length) : ∃ A K, m.iv (Mc.rn t k).prog.toNat = .slice A (pg s (Mc.rn t k).prog).length K ∧ IR W A (pg s (Mc.rn t k).prog) := by
  obtain ⟨b, off, _, hc⟩ := h.pr
  have hp := (hg.gr k hk).pr
  obtain ⟨A, K, e, _, hi⟩ := hc (Mc.rn t k).prog.toNat (by omega)
  exact ⟨A, K, e, hi.below h.bl⟩
theorem PM.ivF0 {o W : World} {g : Nat} {s : Syst} {pa : Option Addr} {pc : Nat} {t : St} {m : PV} {e : Ev} (h : PM o W g s pa pc { t with evs := t.evs ++ [e] } m) (hg : Mc.Good s t) (k : Nat) (hk : k < t.rns.length) : ∃ A K, m.iv (Mc.rn t k).prog.toNat = .slice A (pg s (Mc.rn t k).prog).length K ∧ IR W A (pg s (Mc.rn t k).prog) := by
  obtain ⟨b, off, _, hc⟩ := h.pr
  have hp := (hg.gr k hk).pr
  obtain ⟨A, K, e, _, hi⟩ := hc (Mc.rn t k).prog.toNat (by omega)
  exact ⟨A, K, e, hi.below h.bl⟩
theorem PM.endedC {o W : World} {g : Nat} {s : Syst} {pa : Option Addr} {pc : Nat} {t : St} {m : PV} (h : PM o W g s pa pc t m) (hg : Mc.Good s t) (k : Nat) (hk : k < t.rns.length) (W' : World) (hW : Below W.heap.size W W') : Calls Try.prog 33 #[.pointer (some ⟨m.ps.getD k 0, 0, none⟩)] W' fun e w' => e = .returned (.bool (Mc.rn t k).ended) ∧ Below W'.heap.size W' w' := by
  obtain ⟨A, K, e, _⟩ := h.ivF hg k hk
  obtain ⟨h1, h0⟩ := h.at1 k hk
  rw [e] at h0
  have := pended (m.ps.getD k 0) A _ K _ W' (keepC hW h0) (keepC hW h1)
  rw [aT_end (hg.gr k hk)] at this
  exact this
theorem over_all (t : St) : Mc.over t = true ↔ ∀ k, k < t.rns.length → (Mc.rn t k).ended = true := by
  unfold Mc.over
  rw [List.all_eq_true]
  constructor
  · intro h k hk
    refine h _ ?_
    rw [Mc.rn, List.getD_eq_getElem?_getD, List.getElem?_eq_getElem hk]
    exact List.getElem_mem hk
  · intro h r hr
    obtain ⟨k, hk, rfl⟩ := List.getElem_of_mem hr
    have := h k hk
    rwa [Mc.rn, List.getD_eq_getElem?_getD, List.getElem?_eq_getElem hk] at this
set_option maxRecDepth 100000 in
set_option maxHeartbeats 4000000 in
theorem pall {o : World} {g : Nat} {s : Syst} {pa : Option Addr} {pc : Nat} {t : St} {m : PV} (w : World) (h : PM o w g s pa pc t m) (hg : Mc.Good s t) : Calls Try.prog 35 #[.pointer (some ⟨g, 0, none⟩)] w fun e w' => e = .returned (.bool (Mc.over t)) ∧ Below w.heap.size w w' := by
  have HE : Hid (∀ k W, k < t.rns.length → Below w.heap.size w W → Calls Try.prog 33 #[.pointer (some ⟨m.ps.getD k 0, 0, none⟩)] W fun e w' => e = .returned (.bool (Mc.rn t k).ended) ∧ Below W.heap.size W w') := fun k W hk hW => h.endedC hg k hk W hW
  have HX : Hid (∀ k W, k < t.rns.length → Below w.heap.size w W → ∃ b cap, m.rv = .slice (some ⟨b, 0, none⟩) t.rns.length cap ∧ W.cell? ⟨b, k, none⟩ = some (.pointer (some ⟨m.ps.getD k 0, 0, none⟩))) := fun k W hk hW => by
    obtain ⟨b, cap, e, _, hc⟩ := h.rn1 k hk
    exact ⟨b, cap, e, keepC hW hc⟩
  have HO := TW.hide (over_all t)
  obtain ⟨rb, rc, e1, _, _⟩ := h.rn1 0 (by have := hg.r1; omega)
  have c1 := h.c1
  rw [e1] at c1
  have h2 := hg.r2
  have E1 := TW.hide e1
  clear h hg e1
  generalize t.rns.length = n at *
  go_enter Try.func35, Try.ntmps35
  refine wp_seq_k fun K hK => ?_
  have HK := TW.hide hK
  clear hK
  go_wp2
  refine HK.out _ _ ?_
  clear HK K
  refine wp_seq_k fun K hK => ?_
  have HK := TW.hide hK
  clear hK
  go_wp2
  go_loopw [10] (fun i wr => ∃ k : Nat, k ≤ n ∧ i = .int .i64 (k : Int) ∧ Hid (Below w.heap.size w wr) ∧ Hid (∀ q, q < k → (Mc.rn t q).ended = true)) (fun i wr => n - (intOf i).toNat)
  case atStart => exact ⟨0, Nat.zero_le _, rfl, TW.hide (Below.refl _ _), TW.hide (fun q hq => by omega)⟩
  case round =>
    obtain ⟨k, hk, rfl, HB, HQ⟩ := hrel
    by_cases hlt : k < n
    · have hk1 : (k : Int) < (n : Int) := by omega
      have hk0 : (0 : Int) ≤ (k : Int) := by omega
      have HLT := TW.hide hlt
      have x0 : wr.cell? ⟨rb, k, none⟩ = some (.pointer (some ⟨m.ps.getD k 0, 0, none⟩)) := by
        obtain ⟨b_, c_, e_, x0⟩ := HX.out k wr hlt HB.out
        rw [E1.out] at e_
        injection e_ with e_ _ _
        injection e_ with e_
        injection e_ with e_
        subst e_
        exact x0
      have HC := TW.hide (HE.out k wr hlt HB.out)
      obtain ⟨eb, heb⟩ : ∃ eb, (Mc.rn t k).ended = eb := ⟨_, rfl⟩
      rw [heb] at HC
      have HEB := TW.hide heb
      clear heb hlt
      generalize m.ps.getD k 0 = pk at *
      go_wp2_with fail
      refine HC.out.mono ?_
      rintro e_ w1 ⟨rfl, hb⟩
      have HB1 : Hid (Below w.heap.size w w1) := HB.out.trans (hb.mono HB.out.size)
      clear hb HC x0
      cases eb with
      | true =>
        go_wp2
        go_roundw
        case rel =>
          refine ⟨k + 1, HLT.out, by go_num, HB1, TW.hide (fun q hq => ?_)⟩
          rcases Nat.lt_or_ge q k with h | h
          · exact HQ.out q h
          · obtain rfl : q = k := by omega
            exact HEB.out
        case measure => simp [intOf]; have := HLT.out; omega
      | false =>
        have HF : Hid (Mc.over t = false) := by
          show _ = _
          cases ho : Mc.over t with
          | false => rfl
          | true =>
            have := HO.out.1 ho k HLT.out
            rw [HEB.out] at this
            cases this
        go_wp2
        go_ret
        exact ⟨by rw [HF.out]; rfl, HB1.out⟩
    · have hkn : n = k := by omega
      subst hkn
      have HF : Hid (Mc.over t = true) := HO.out.2 HQ.out
      go_wp2
      refine HK.out _ _ ?_
      go_wp2
      go_ret
      exact ⟨by rw [HF.out]; rfl, HB.out⟩
theorem ready_over {s : Syst} {t : St} (h : Mc.over t = true) : Mc.ready s t = [] := by
  unfold Mc.ready
  rw [List.filter_eq_nil_iff]
  intro k hk
  rw [can_eq, (over_all t).1 h k (by simpa using hk), if_pos rfl]
  simp
set_option maxRecDepth 100000 in
set_option maxHeartbeats 4000000 in
theorem pends {o : World} {g : Nat} {s : Syst} {pa : Option Addr} {pc : Nat} {t : St} {m : PV} (la : Option Addr) (lc R : Nat) (w : World) (h : PM o w g s pa pc t m) (hg : Mc.Good s t) (hR : (Mc.ready s t).length = R) : Calls Try.prog 29 #[.pointer (some ⟨g, 0, none⟩), .slice la R lc] w fun e w' => e = .returned (.int .i64 (Mc.fin s t)) ∧ Below w.heap.size w w' := by
  have HA := TW.hide (pall w h hg)
  have HO : Hid (Mc.over t = true → R = 0) := fun ho => by rw [← hR, ready_over ho]; rfl
  have HF : Hid (Mc.fin s t = if Mc.over t = true then 1 else if 40000 ≤ t.evs.length then 4 else if Mc.ready s t = [] then 2 else 0) := rfl
  have HRL : Hid (Mc.ready s t = [] ↔ R = 0) := by show _ ↔ _; rw [← hR]; exact List.length_eq_zero_iff.symm
  have hel := hg.el
  obtain ⟨ea, ec, e6⟩ := own_open13 h.evs
  have c6 : ∀ W, Below w.heap.size w W → W.cell? ⟨g, 6, none⟩ = some (.slice ea t.evs.length ec) := fun W hW => by rw [← e6]; exact keepC hW h.c6
  have HC6 := TW.hide c6
  clear h hg hR c6 e6
  generalize Mc.fin s t = FI at *
  generalize Mc.over t = OV at *
  generalize Mc.ready s t = RL at *
  generalize t.evs.length = en at *
  go_enter Try.func29, Try.ntmps29
  by_cases hz : R = 0
  · have kz : ((R : Int) == 0) = true := by simp [hz]
    have HZ := TW.hide hz
    clear hz
    go_wp2_with fail
    refine HA.out.mono ?_
    rintro e1 w1 ⟨rfl, hb⟩
    have c6 := HC6.out w1 hb
    have HB := TW.hide hb
    clear hb HA HC6
    cases OV with
    | true =>
      have HF2 : Hid (FI = 1) := by show _ = _; rw [HF.out, if_pos rfl]
      go_wp2
      go_ret
      exact ⟨by rw [HF2.out]; rfl, HB.out⟩
    | false =>
      by_cases h4 : en = 40000
      · have HF2 : Hid (FI = 4) := by show _ = _; rw [HF.out, if_neg (by decide), if_pos (by omega)]
        have k4 : ((en : Int) == 40000) = true := by simp; omega
        clear h4 hel
        go_wp2
        go_ret
        exact ⟨by rw [HF2.out]; rfl, HB.out⟩
      · have HF2 : Hid (FI = 2) := by show _ = _; rw [HF.out, if_neg (by decide), if_neg (by omega), if_pos (HRL.out.2 HZ.out)]
        have k4 : ((en : Int) == 40000) = false := by simp; omega
        clear h4 hel
        go_wp2
        go_ret
        exact ⟨by rw [HF2.out]; rfl, HB.out⟩
  · have kz : ((R : Int) == 0) = false := by simp [hz]
    have HZ := TW.hide hz
    have c6 := HC6.out w (Below.refl _ _)
    have HOv : Hid (¬ OV = true) := fun ho => hz (HO.out ho)
    clear hz HA HC6 HO
    by_cases h4 : en = 40000
    · have HF2 : Hid (FI = 4) := by show _ = _; rw [HF.out, if_neg HOv.out, if_pos (by omega)]
      have k4 : ((en : Int) == 40000) = true := by simp; omega
      clear h4 hel
      go_wp2
      go_ret
      exact ⟨by rw [HF2.out]; rfl, Below.refl _ _⟩
    · have HF2 : Hid (FI = 0) := by show _ = _; rw [HF.out, if_neg HOv.out, if_neg (by omega), if_neg (fun h => HZ.out (HRL.out.1 h))]
      have k4 : ((en : Int) == 40000) = false := by simp; omega
      clear h4 hel
      go_wp2
      go_ret
      exact ⟨by rw [HF2.out]; rfl, Below.refl _ _⟩
end LW
end Go.Proofs.Ytheifjakpdeiaaa
