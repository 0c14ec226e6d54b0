/-
  The run of the program's machine: the whole.
-/
import Derived.Test.YtheifjakpdeiaaaPgH
namespace Go.Proofs.Ytheifjakpdeiaaa
open Go.RowKit
set_option linter.unusedVariables false
set_option linter.unusedSimpArgs false
namespace LW
open Mc
theorem run_fin {s : Syst} {picks : List Int} {f : Nat} {t : St} (h : fin s t ≠ 0) : Mc.run s picks (f + 1) t = (fin s t, 0, t) := by rw [Mc.run, if_pos h]
theorem run_bad {s : Syst} {picks : List Int} {f : Nat} {t : St} (h : fin s t = 0) (hb : bad s t (turn s picks t) ≠ 0) : Mc.run s picks (f + 1) t = (3, bad s t (turn s picks t), Mc.step s t (turn s picks t)) := by rw [Mc.run, if_neg (by simp [h]), if_pos hb]
theorem run_on {s : Syst} {picks : List Int} {f : Nat} {t : St} (h : fin s t = 0) (hb : bad s t (turn s picks t) = 0) : Mc.run s picks (f + 1) t = Mc.run s picks f (Mc.step s t (turn s picks t)) := by rw [Mc.run, if_neg (by simp [h]), if_neg (by simp [hb])]
/-- What run leaves. -/
def RunQ (o : World) (g : Nat) (s : Syst) (pa : Option Addr) (pc : Nat) (picks : List Int) : Ending → World → Prop := fun e w' => ∃ t' m', e = .returned (.tuple #[.int .i64 (Mc.play s picks).1, .int .i64 (Mc.play s picks).2.1]) ∧ (Mc.play s picks).2.2 = t' ∧ PM o w' g s pa pc t' m'
set_option maxRecDepth 100000 in
set_option maxHeartbeats 4000000 in
theorem prun {o : World} {g : Nat} {s : Syst} {pa : Option Addr} {pc : Nat} {t : St} {m : PV} (pka : Option Addr) (pkc : Nat) (picks : List Int) (w : World) (h : PM o w g s pa pc (Mc.first s) m) (hgb : m.gb = none) (ho : Mc.Ok s) (hn : Mc.Nm s) (hp : NR o pka picks) (hpl : picks.length ≤ 9223372036854775807) (hpi : ∀ j, i64 (picks.getD j 0)) :
    Calls Try.prog 20 #[.pointer (some ⟨g, 0, none⟩), .slice pka picks.length pkc, .int .i64 40001] w (RunQ o g s pa pc picks) := by
  have hmf : ∀ (fn : Fn) (first cap : Array Value) (w : World), (Instr.makeFunc fn first cap).run Try.prog w = .ok (.func fn first cap) w := fun _ _ _ _ => rfl
  obtain ⟨POST, hP⟩ : ∃ P, P = RunQ o g s pa pc picks := ⟨_, rfl⟩
  have HPo := TW.hide hP
  rw [← hP]
  clear hP
  have hb0 : Below w.heap.size w ((w.alloc (.cells #[.int .i64 0] 3)).alloc (.cells #[.int .i64 0] 26)) := ((Below.refl _ _).alloc (Nat.le_refl _) _).alloc (by simp) _
  have k6 : ((w.alloc (.cells #[.int .i64 0] 3)).alloc (.cells #[.int .i64 0] 26)).heap[w.heap.size]? = some (.cells #[.int .i64 0] 3 (0, 0)) := blk_alloc (heap_alloc_new w _)
  have k7 : ((w.alloc (.cells #[.int .i64 0] 3)).alloc (.cells #[.int .i64 0] 26)).heap[w.heap.size + 1]? = some (.cells #[.int .i64 0] 26 (0, 0)) := by
    have h1 := heap_alloc_new (w.alloc (.cells #[.int .i64 0] 3)) (.cells #[.int .i64 0] 26)
    have h2 : (w.alloc (.cells #[.int .i64 0] 3)).heap.size = w.heap.size + 1 := by simp
    rw [h2] at h1
    exact h1
  have HM0 := TW.hide (h.guests hb0 _ _ 0 0 k6 k7 (Nat.le_refl _) (by omega) hgb)
  have HOk := TW.hide ho
  have HNm := TW.hide hn
  have HPk := TW.hide hp
  have HPi := TW.hide hpi
  clear hb0 k6 k7 h hgb ho hn hp hpi
  go_enter_defers Try.func20, Try.ntmps20
  refine wp_seq_k fun K0 hK0 => ?_
  have HK0 := TW.hide hK0
  clear hK0
  go_wp2
  refine HK0.out _ _ ?_
  clear HK0 K0
  generalize World.alloc _ _ = X at *
  generalize w.heap.size + 1 = q7 at *
  generalize w.heap.size = q6 at *
  refine wp_seq_k fun K0 hK0 => ?_
  have HK0 := TW.hide hK0
  clear hK0
  go_wp2
  refine HK0.out _ _ ?_
  clear HK0 K0 hmf
  have HS0 : Hid (0 = (Mc.first s).evs.length ∧ Mc.Good s (Mc.first s) ∧ Mc.play s picks = Mc.run s picks (40001 - 0) (Mc.first s)) := ⟨rfl, good_first HOk.out, rfl⟩
  refine wp_seq_k fun K0 hK0 => ?_
  have HK0 := TW.hide hK0
  clear hK0
  go_wp2
  go_loopw [13] (fun n wr => ∃ (k : Nat) (t : St) (m2 : PV), n = .int .i64 (k : Int) ∧ k ≤ 40001 ∧ Hid (PM o wr g s pa pc t m2) ∧ Hid (m2.gb = some q6) ∧ Hid (m2.ge = some q7) ∧ Hid (k = t.evs.length ∧ Mc.Good s t ∧ Mc.play s picks = Mc.run s picks (40001 - k) t)) (fun n _ => 40002 - (intOf n).toNat)
  case atStart => exact ⟨0, _, _, rfl, by omega, HM0, TW.hide rfl, TW.hide rfl, HS0⟩
  case round =>
    clear HM0 HS0
    obtain ⟨k, t, m2, rfl, hk, HM, HGb, HGe, HSt⟩ := hrel
    have hk4 : k ≤ 40000 := by have := HSt.out.2.1.el; have := HSt.out.1; omega
    have hki : (k : Int) < 40001 := by omega
    have hGd := HSt.out.2.1
    have hRn : (Mc.ready s t).length ≤ 512 := Nat.le_trans (ready_len s t) hGd.r2
    have HC1 := TW.hide (pready wr HM.out HOk.out hGd)
    have HGd := TW.hide hGd
    clear hGd
    refine wp_seq_k fun Ka hKa => ?_
    have HKa := TW.hide hKa
    clear hKa
    go_wp2
    refine HKa.out _ _ ?_
    clear HKa Ka
    refine wp_seq_k fun Kb hKb => ?_
    have HKb := TW.hide hKb
    clear hKb
    go_wp2
    refine HKb.out _ _ ?_
    clear HKb Kb
    refine wp_seq_k fun Kd hKd => ?_
    have HKd := TW.hide hKd
    clear hKd
    refine wp_block ?_
    refine wp_seq_k fun Ke hKe => ?_
    have HKe := TW.hide hKe
    clear hKe
    go_wp2
    refine HKe.out _ _ ?_
    clear HKe Ke
    refine wp_seq_k fun Kf hKf => ?_
    have HKf := TW.hide hKf
    clear hKf
    go_wp2_with fail
    refine HC1.out.mono ?_
    rintro e1 w1 ⟨v, rfl, hM1⟩
    obtain ⟨la, lc, ev⟩ := own_open13 hM1.lst
    change v = .slice la (Mc.ready s t).length lc at ev
    subst ev
    have HM1 := TW.hide hM1
    have HC2 := TW.hide (pends la lc (Mc.ready s t).length w1 hM1 HGd.out rfl)
    have HTn : Hid (turn s picks t = (Mc.ready s t).getD (if t.evs.length < picks.length then (rest (picks.getD t.evs.length 0) (Mc.ready s t).length).toNat else 0) 0) := rfl
    have HRp : Hid (Mc.fin s t = 0 → 0 < (Mc.ready s t).length) := fun h => fin_ready h
    have HRL : Hid (∀ pi, pi < (Mc.ready s t).length → (natV (Mc.ready s t))[pi]? = some (.int .i64 (((Mc.ready s t).getD pi 0 : Nat) : Int))) := fun pi hpi => by
      unfold natV
      rw [List.getElem?_map, List.getElem?_eq_getElem hpi, List.getD_eq_getElem?_getD, List.getElem?_eq_getElem hpi]
      rfl
    clear hM1 HC1 HM
    generalize hRr : (Mc.ready s t).length = R at *
    go_wp2
    refine HKf.out _ _ ?_
    clear HKf Kf
    refine wp_seq_k fun Kg hKg => ?_
    have HKg := TW.hide hKg
    clear hKg
    refine wp_seq_k fun Kh hKh => ?_
    have HKh := TW.hide hKh
    clear hKh
    go_wp2_with fail
    refine HC2.out.mono ?_
    rintro e2 w2 ⟨rfl, hb⟩
    have HM2 := TW.hide (HM1.out.below hb)
    clear hb HM1 HC2
    have d0 : w2.cell? ⟨q6, 0, none⟩ = some (.int .i64 m2.gx) := blk_cell (i := 0) (HM2.out.gst q6 HGb.out).1 rfl
    have f0 : w2.frozen? ⟨q6, 0, none⟩ = false := by simp [World.frozen?, (HM2.out.gst q6 HGb.out).1]
    have HM3 := TW.hide (HM2.out.setG HGb.out (Mc.fin s t))
    go_wp2
    refine HKh.out _ _ ?_
    clear HKh Kh
    clear d0 f0 HM2
    generalize World.setCell _ _ _ = W3 at *
    have d0 : W3.cell? ⟨q6, 0, none⟩ = some (.int .i64 (Mc.fin s t)) := blk_cell (i := 0) (HM3.out.gst q6 HGb.out).1 rfl
    by_cases hf : Mc.fin s t = 0
    · have HF0 := TW.hide hf
      have hR0 := HRp.out hf
      rw [hf] at d0 HM3
      clear hf HRp
      go_wp2
      refine HKg.out _ _ ?_
      clear HKg Kg
      refine wp_seq_k fun Ki hKi => ?_
      have HKi := TW.hide hKi
      clear hKi
      go_wp2
      refine HKi.out _ _ ?_
      clear HKi Ki
      clear d0
      have HLs := TW.hide HM3.out.lst
      change Hid (World.ownsRow _ _ _ _ (.slice la R lc) _ _) at HLs
      rw [show ({ m2 with nv := .slice la R lc, nn := Mc.ready s t, gx := 0 } : PV).nn.length = R from hRr] at HLs
      obtain ⟨lb, rfl⟩ : ∃ lb, la = some ⟨lb, 0, none⟩ := by
        obtain ⟨b, cap, e, _⟩ := own_rd HLs.out hR0
        injection e with e1
        exact ⟨b, e1⟩
      have HCS := TW.hide (pstep (turn s picks t) W3 HM3.out HOk.out HNm.out HGd.out (turn_ok HF0.out).1 (turn_ok HF0.out).2 (fin_len HF0.out))
      by_cases hn : k < picks.length
      · have hn1 : (k : Int) < (picks.length : Int) := by omega
        have hn0 : (0 : Int) ≤ (k : Int) := by omega
        obtain ⟨kb, ko, rfl, xk⟩ : ∃ kb ko, pka = some ⟨kb, ko, none⟩ ∧ W3.cell? ⟨kb, ko + k, none⟩ = some (.int .i64 (picks.getD k 0)) := by
          rcases HPk.out with h | ⟨b, off, e, hq⟩
          · rw [h] at hn; simp at hn
          · exact ⟨b, off, e, keepC HM3.out.bl (hq k hn)⟩
        obtain ⟨pi, hpi, hpl_⟩ : ∃ pi : Nat, rest (picks.getD k 0) R = (pi : Int) ∧ pi < R := by
          have h1 := Int.emod_nonneg (picks.getD k 0) (show (R : Int) ≠ 0 by omega)
          have h2 := Int.emod_lt_of_pos (picks.getD k 0) (show (0 : Int) < R by omega)
          exact ⟨(rest (picks.getD k 0) R).toNat, by unfold rest; omega, by unfold rest; omega⟩
        have HRR : Hid (∀ W, Calls Try.prog 31 #[.int .i64 (picks.getD k 0), .int .i64 (R : Int)] W fun e w' => e = .returned (.int .i64 (pi : Int)) ∧ W = w') := fun W => by
          have := prest (picks.getD k 0) R W (by omega) (by omega) (HPi.out k)
          unfold rest at hpi
          rwa [hpi] at this
        have HNx : Hid ((natV (Mc.ready s t))[pi]? = some (.int .i64 ((turn s picks t : Nat) : Int))) := by
          show _ = _
          rw [HRL.out pi hpl_, HTn.out, ← HSt.out.1, if_pos hn, hpi, Int.toNat_natCast]
        clear hpi hn HTn HRL
        generalize picks.getD k 0 = pk at *
        refine wp_seq_k fun Kj hKj => ?_
        have HKj := TW.hide hKj
        clear hKj
        go_wp2
        refine HKj.out _ _ ?_
        clear HKj Kj
        clear xk
        go_wp2_with fail
        refine (HRR.out _).mono ?_
        rintro e3 w3 ⟨rfl, rfl⟩
        clear HRR
        have x1 := own_rdA HLs.out rfl hR0 pi _ HNx.out
        have pI : (pi : Int) < (R : Int) := by omega
        have pJ : (0 : Int) ≤ (pi : Int) := by omega
        go_wp2_with fail
        refine HCS.out.mono ?_
        rintro e4 w4 ⟨m4, hsg, hM4, ⟨hb, rfl⟩ | ⟨hb, rfl⟩⟩
        · have HM4 := TW.hide hM4
          have HB4 := TW.hide hb
          have HS4 := TW.hide hsg
          have HPZ : Hid (Mc.play s picks = (3, bad s t (turn s picks t), Mc.step s t (turn s picks t))) := by
            have h1 := HSt.out.2.2
            have h2 := fin_len HF0.out
            have h3 := HSt.out.1
            rw [show 40001 - k = (40000 - k) + 1 by omega, run_bad HF0.out hb] at h1
            exact h1
          clear hM4 hb hsg x1
          go_wp2_with fail
          refine gaveUpR q6 q7 (bad s t (turn s picks t)) w4 HM4.out (by rw [HS4.out.b]; exact HGb.out) (by rw [HS4.out.e]; exact HGe.out) _ rfl rfl _ (fun w' hM' => ?_)
          rw [HPo.out]
          exact ⟨_, _, by rw [HPZ.out], by rw [HPZ.out], hM'⟩
        · have HM4 := TW.hide hM4
          have hk4 : k + 1 ≤ 40001 := by have := fin_len HF0.out; have := HSt.out.1; omega
          have HSt4 : Hid (k + 1 = (Mc.step s t (turn s picks t)).evs.length ∧ Mc.Good s (Mc.step s t (turn s picks t)) ∧ Mc.play s picks = Mc.run s picks (40001 - (k + 1)) (Mc.step s t (turn s picks t))) := by
            have h1 := HSt.out.2.2
            have h2 := fin_len HF0.out
            have h3 := HSt.out.1
            rw [show 40001 - k = (40000 - k) + 1 by omega, run_on HF0.out hb] at h1
            refine ⟨by rw [step_evs, h3]; simp, good_turn HOk.out HNm.out HSt.out.2.1 HF0.out, ?_⟩
            rw [h1]
            congr 1
            omega
          have HGb4 : Hid (m4.gb = some q6) := by show _ = _; rw [hsg.b]; exact HGb.out
          have HGe4 : Hid (m4.ge = some q7) := by show _ = _; rw [hsg.e]; exact HGe.out
          clear hM4 hsg hb x1
          generalize Mc.step s t (turn s picks t) = t4 at *
          go_wp2
          refine HKd.out _ _ ?_
          go_wp2
          go_roundw
          case rel => exact ⟨k + 1, _, m4, by go_num, hk4, HM4, HGb4, HGe4, HSt4⟩
          case measure => simp [intOf]; omega
      · have hn1 : ((k : Int) < (picks.length : Int)) = False := by simp; omega
        have HRR : Hid (∀ W, Calls Try.prog 31 #[.int .i64 0, .int .i64 (R : Int)] W fun e w' => e = .returned (.int .i64 0) ∧ W = w') := fun W => by
          have := prest 0 R W (by omega) (by omega) i64_0
          rwa [Int.zero_emod] at this
        have HNx : Hid ((natV (Mc.ready s t))[0]? = some (.int .i64 ((turn s picks t : Nat) : Int))) := by
          show _ = _
          rw [HRL.out 0 hR0, HTn.out, ← HSt.out.1, if_neg hn]
        clear hn HTn HRL
        refine wp_seq_k fun Kj hKj => ?_
        have HKj := TW.hide hKj
        clear hKj
        go_wp2
        refine HKj.out _ _ ?_
        clear HKj Kj
        go_wp2_with fail
        refine (HRR.out _).mono ?_
        rintro e3 w3 ⟨rfl, rfl⟩
        clear HRR
        have x1 := own_rdA HLs.out rfl hR0 0 _ HNx.out
        have pI : (0 : Int) < (R : Int) := by omega
        have pJ : (0 : Int) ≤ (0 : Int) := by omega
        go_wp2_with fail
        refine HCS.out.mono ?_
        rintro e4 w4 ⟨m4, hsg, hM4, ⟨hb, rfl⟩ | ⟨hb, rfl⟩⟩
        · have HM4 := TW.hide hM4
          have HB4 := TW.hide hb
          have HS4 := TW.hide hsg
          have HPZ : Hid (Mc.play s picks = (3, bad s t (turn s picks t), Mc.step s t (turn s picks t))) := by
            have h1 := HSt.out.2.2
            have h2 := fin_len HF0.out
            have h3 := HSt.out.1
            rw [show 40001 - k = (40000 - k) + 1 by omega, run_bad HF0.out hb] at h1
            exact h1
          clear hM4 hb hsg x1
          go_wp2_with fail
          refine gaveUpR q6 q7 (bad s t (turn s picks t)) w4 HM4.out (by rw [HS4.out.b]; exact HGb.out) (by rw [HS4.out.e]; exact HGe.out) _ rfl rfl _ (fun w' hM' => ?_)
          rw [HPo.out]
          exact ⟨_, _, by rw [HPZ.out], by rw [HPZ.out], hM'⟩
        · have HM4 := TW.hide hM4
          have hk4 : k + 1 ≤ 40001 := by have := fin_len HF0.out; have := HSt.out.1; omega
          have HSt4 : Hid (k + 1 = (Mc.step s t (turn s picks t)).evs.length ∧ Mc.Good s (Mc.step s t (turn s picks t)) ∧ Mc.play s picks = Mc.run s picks (40001 - (k + 1)) (Mc.step s t (turn s picks t))) := by
            have h1 := HSt.out.2.2
            have h2 := fin_len HF0.out
            have h3 := HSt.out.1
            rw [show 40001 - k = (40000 - k) + 1 by omega, run_on HF0.out hb] at h1
            refine ⟨by rw [step_evs, h3]; simp, good_turn HOk.out HNm.out HSt.out.2.1 HF0.out, ?_⟩
            rw [h1]
            congr 1
            omega
          have HGb4 : Hid (m4.gb = some q6) := by show _ = _; rw [hsg.b]; exact HGb.out
          have HGe4 : Hid (m4.ge = some q7) := by show _ = _; rw [hsg.e]; exact HGe.out
          clear hM4 hsg hb x1
          generalize Mc.step s t (turn s picks t) = t4 at *
          go_wp2
          refine HKd.out _ _ ?_
          go_wp2
          go_roundw
          case rel => exact ⟨k + 1, _, m4, by go_num, hk4, HM4, HGb4, HGe4, HSt4⟩
          case measure => simp [intOf]; omega
    · have kf : (Mc.fin s t != 0) = true := by simpa using hf
      have HPZ : Hid (Mc.play s picks = (Mc.fin s t, 0, t)) := by
        have h1 := HSt.out.2.2
        have h2 := HGd.out.el
        have h3 := HSt.out.1
        rw [show 40001 - k = (40000 - k) + 1 by omega, run_fin hf] at h1
        exact h1
      clear hf
      have f0 : W3.frozen? ⟨q6, 0, none⟩ = false := by simp [World.frozen?, (HM3.out.gst q6 HGb.out).1]
      have HM4 := TW.hide (HM3.out.setG HGb.out (Mc.fin s t))
      have d7 : (W3.setCell ⟨q6, 0, none⟩ (.int .i64 (Mc.fin s t))).cell? ⟨q7, 0, none⟩ = some (.int .i64 m2.gy) := blk_cell (i := 0) (HM4.out.gse q7 HGe.out).1 rfl
      have f7 : (W3.setCell ⟨q6, 0, none⟩ (.int .i64 (Mc.fin s t))).frozen? ⟨q7, 0, none⟩ = false := by simp [World.frozen?, (HM4.out.gse q7 HGe.out).1]
      have HM5 := TW.hide (HM4.out.setE HGe.out 0)
      go_wp2
      refine endsR q6 q7 _ HM5.out HGb.out HGe.out _ rfl rfl _ ?_
      rw [HPo.out]
      exact ⟨_, _, by rw [HPZ.out], by rw [HPZ.out], HM5.out⟩
end LW
end Go.Proofs.Ytheifjakpdeiaaa
