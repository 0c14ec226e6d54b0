/-
  What channels of the document's machine does.
-/
import Derived.Test.YtghpfhoajcgghaaWMem3
import Derived.Test.YtghpfhoajcgghaaSysO
namespace Go.Proofs.Ytghpfhoajcgghaa
open Go.RowKit
set_option linter.unusedVariables false
set_option linter.unusedSimpArgs false
namespace LW
open Mc
/-- What a call of channels or shared leaves. -/
def ChP (o : World) (g : Nat) (s : Syst) (pa : Option Addr) (pc : Nat) (ra : Option Addr) (rc : Nat) (m : WV) (ge k : Nat) (op : Int) (x : An) : Ending → World → Prop := fun e w' => e = .returned (.int .i64 x.er) ∧ ∃ m', WM o w' g s pa pc ra rc x.st m' ∧ EvB w' ge ⟨k, op, x.a, x.v, x.sh⟩ ∧ m'.ev = m.ev ∧ m'.gb = m.gb ∧ m'.gc = m.gc
theorem hd1_at {o W : World} {g : Nat} {s : Syst} {pa : Option Addr} {pc : Nat} {ra : Option Addr} {rc : Nat} {t : St} {m : WV} (h : WM o W g s pa pc ra rc t m) {c hb cap : Nat} (hc : c < t.held.length) (e6 : m.hv = .slice (some ⟨hb, 0, none⟩) t.held.length cap) : W.frozen? ⟨hb, c, none⟩ = false ∧ W.cell? ⟨hb, c, none⟩ = some (qn m.qs c) := by
  obtain ⟨b, cp, e, _, hf, hr⟩ := h.hd1 c hc
  rw [e6] at e
  injection e with e1
  injection e1 with e1
  injection e1 with e1
  subst e1
  exact ⟨hf, hr⟩
theorem cell_of {w w' : World} {b i : Nat} (h : w'.heap[b]? = w.heap[b]?) : w'.cell? ⟨b, i, none⟩ = w.cell? ⟨b, i, none⟩ := by
  simp only [World.cell?, h]
theorem Qu.form {w : World} {v : Value} {xs : List Int} (h : Qu w v xs) : ∃ a n c, v = .slice a n c := by
  rcases h with ⟨rfl, _⟩ | ⟨b, off, cap, cur, rfl, _⟩
  · exact ⟨_, _, _, rfl⟩
  · exact ⟨_, _, _, rfl⟩
set_option maxRecDepth 100000 in
set_option maxHeartbeats 4000000 in
theorem rsend {o : World} {g : Nat} {s : Syst} {pa : Option Addr} {pc : Nat} {ra : Option Addr} {rc : Nat} {t : St} {m : WV} (k c r : Nat) (a2 : Int) (ge : Nat) (w : World) (h : WM o w g s pa pc ra rc t m) (hk : k < t.rns.length) (hc : c < t.held.length) (hs : t.shut.length = t.held.length) (hr : r < 8) (hE : EvB w ge ⟨k, 5, c, 0, false⟩) (hB : o.heap.size ≤ ge) (hn : m.ev.ownBlock ≠ some ge) (hq : (t.held.getD c []).length + 1 ≤ 1048576) :
    Calls Try.prog 38 #[.pointer (some ⟨g, 0, none⟩), .int .i64 k, .agg #[.int .i64 5, .int .i64 (c : Int), .int .i64 (r : Int), .int .i64 a2], .pointer (some ⟨ge, 0, none⟩)] w (ChP o g s pa pc ra rc m ge k 5 (if t.shut.getD c false then ⟨c, reg t k r, false, 131, t⟩ else ⟨c, reg t k r, false, 0, { t with held := t.held.set c (t.held.getD c [] ++ [reg t k r]) }⟩)) := by
  have HM := TW.hide h
  have HE := TW.hide hE
  have HB := TW.hide hB
  have HN := TW.hide hn
  clear h hE hB hn
  generalize hP : ChP o g s pa pc ra rc m ge k _ _ = POST
  have HP := TW.hide hP
  clear hP
  have hA0 : Below w.heap.size w (w.alloc (.cells #[.int .i64 5, .int .i64 (c : Int), .int .i64 (r : Int), .int .i64 a2] 53)) := (Below.refl _ _).alloc (Nat.le_refl _) _
  have NI0 : (w.alloc (.cells #[.int .i64 5, .int .i64 (c : Int), .int .i64 (r : Int), .int .i64 a2] 53)).heap[w.heap.size]? = some (.cells #[.int .i64 5, .int .i64 (c : Int), .int .i64 (r : Int), .int .i64 a2] 53 (0, 0)) := heap_alloc_new w _
  go_enter Try.func38, Try.ntmps38
  refine wp_seq_k fun K hK => ?_
  have HK := TW.hide hK
  clear hK
  go_wp2
  refine HK.out _ _ ?_
  clear HK K
  have HMV := TW.hide (HM.out.below hA0)
  have HEV := TW.hide (HE.out.below hA0)
  have HI := TW.hide NI0
  clear hA0 NI0 HM HE
  generalize (w.alloc (.cells #[.int .i64 5, .int .i64 (c : Int), .int .i64 (r : Int), .int .i64 a2] 53)) = V at *
  generalize w.heap.size = gi at *
  obtain ⟨z0, z1, z2, z3⟩ := cellsY4 HI.out
  obtain ⟨rb, rcap, e5, _, x1⟩ := HMV.out.reg1 k hk r hr
  have c5 := HMV.out.c5
  rw [e5] at c5
  have k1 : (k : Int) < (t.rns.length : Int) := by omega
  have k0 : (0 : Int) ≤ (k : Int) := by omega
  have r1 : (r : Int) < 8 := by omega
  have r0 : (0 : Int) ≤ (r : Int) := by omega
  generalize t.rns.length = n at *
  generalize reg t k (r : Int) = v at *
  refine wp_seq_k fun K hK => ?_
  have HK := TW.hide hK
  clear hK
  go_wp2
  go_quiet (fail)
  refine HK.out _ _ ?_
  clear HK
  replace HI := TW.hide (blk_keep HI.out (below_drewN (Below.refl V.heap.size V) nq))
  have HMX := TW.hide (HMV.out.below (below_drewN (Below.refl V.heap.size V) nq))
  have HEX := TW.hide (HEV.out.below (below_drewN (Below.refl V.heap.size V) nq))
  clear HMV HEV
  generalize V.drewN nq = X at *
  clear z0 z1 z2 z3
  obtain ⟨z0, z1, z2, z3⟩ := cellsY4 HI.out
  obtain ⟨d0, d1, d2, d3, d4⟩ := HEX.out.cells
  have fz := HEX.out.froz 3
  have HMY : Hid (WM o (X.setCell ⟨ge, 3, none⟩ (.int .i64 v)) g s pa pc ra rc t m) := HMX.out.setE HEX.out HB.out HN.out 3 _
  have HEY : Hid (EvB (X.setCell ⟨ge, 3, none⟩ (.int .i64 v)) ge ⟨k, 5, c, v, false⟩) := HEX.out.setV v
  have HIY : Hid ((X.setCell ⟨ge, 3, none⟩ (.int .i64 v)).heap[gi]? = some (.cells #[.int .i64 5, .int .i64 (c : Int), .int .i64 (r : Int), .int .i64 a2] 53 (0, 0))) := blk_setN HI.out HEX.out (by decide)
  go_wp2
  clear d0 d1 d2 d3 d4 fz HEX HMX HI z0 z1 z2 z3 c5 x1 k0 k1 r0 r1
  generalize X.setCell _ _ = Y at *
  have HI := HIY
  clear HIY
  obtain ⟨z0, z1, z2, z3⟩ := cellsY4 HI.out
  obtain ⟨sb, scap, e7, _, _, x2⟩ := HMY.out.sh1 c (by omega)
  have c7 := HMY.out.c7
  rw [e7] at c7
  have q1 : (c : Int) < (t.shut.length : Int) := by omega
  have q0 : (0 : Int) ≤ (c : Int) := by omega
  generalize t.shut.length = sn at *
  generalize t.shut.getD c false = sh at *
  go_quiet (fail)
  replace HI := TW.hide (blk_keep HI.out (below_drewN (Below.refl Y.heap.size Y) nq))
  have HMZ := TW.hide (HMY.out.below (below_drewN (Below.refl Y.heap.size Y) nq))
  have HEZ := TW.hide (HEY.out.below (below_drewN (Below.refl Y.heap.size Y) nq))
  clear HMY HEY
  generalize Y.drewN nq = Z at *
  clear z0 z1 z2 z3
  obtain ⟨z0, z1, z2, z3⟩ := cellsY4 HI.out
  cases sh with
  | true =>
    go_wp2
    rw [← HP.out]
    exact ⟨rfl, m, HMZ.out, HEZ.out, rfl, rfl, rfl⟩
  | false =>
    go_wp2
    obtain ⟨hb, hcap, e6, hbB, _, x3⟩ := HMZ.out.hd1 c hc
    have c6 := HMZ.out.c6
    rw [e6] at c6
    have p1 : (c : Int) < (t.held.length : Int) := by omega
    refine wp_region_noPanic ?_
    refine RG.wp_region_L (fun Z => Z.cell? ⟨g, 6, none⟩ = some (.slice (some ⟨hb, 0, none⟩) t.held.length hcap) ∧ Z.cell? ⟨gi, 1, none⟩ = some (.int .i64 (c : Int)) ∧ Z.cell? ⟨hb, c, none⟩ = some (qn m.qs c)) (fun Z => True) [18] (by kernel_rfl) ?_
    refine RG.wpL_any fun Ya hY => ?_
    have HBa : Hid (Below Z.heap.size Z Ya) := by rw [hY]; exact below_drewN (Below.refl _ _) 1
    clear hY
    have HMa := TW.hide (HMZ.out.below HBa.out)
    have HEa := TW.hide (HEZ.out.below HBa.out)
    have HIa := TW.hide (blk_keep HI.out HBa.out)
    clear HI HMZ HEZ HBa
    have HSa : Hid (Ya.cell? ⟨g, 6, none⟩ = some (.slice (some ⟨hb, 0, none⟩) t.held.length hcap) ∧ Ya.cell? ⟨gi, 1, none⟩ = some (.int .i64 (c : Int)) ∧ Ya.cell? ⟨hb, c, none⟩ = some (qn m.qs c)) := ⟨by rw [HMa.out.c6, e6], (cellsY4 HIa.out).2.1, (hd1_at HMa.out hc e6).2⟩
    refine RG.wpL_take (fuel := 4) (a' := ?Aa) [0, 1, 2, 3, 4, 5, 6, 7, 8, 9, 10, 11, 12, 13, 14] (by kernel_rfl) (by kernel_rfl) (fun _ _ _ _ _ h => h) trivial (fun _ => HSa.out) ?ra ?_
    case ra =>
      refine RG.RunsIf.weak (v := ?_) (by rfl) (by rfl) (fun Z hT => ?_) ?_
      rotate_left
      · go_simp
        rfl
      simp only [Act.put, List.setIfInBounds_toArray, List.set_cons_zero, List.set_cons_succ, List.getElem_toArray, List.getElem_cons_zero, List.getElem_cons_succ]
      refine RG.RunsIf.weak (v := ?_) (by rfl) (by rfl) (fun Z hT => ?_) ?_
      rotate_left
      · go_simp
        rfl
      simp only [Act.put, List.setIfInBounds_toArray, List.set_cons_zero, List.set_cons_succ, List.getElem_toArray, List.getElem_cons_zero, List.getElem_cons_succ]
      refine RG.RunsIf.weak (v := ?_) (by rfl) (by rfl) (fun Z hT => ?_) ?_
      rotate_left
      · go_simp
        rfl
      simp only [Act.put, List.setIfInBounds_toArray, List.set_cons_zero, List.set_cons_succ, List.getElem_toArray, List.getElem_cons_zero, List.getElem_cons_succ]
      refine RG.RunsIf.strong (v := .slice (some ⟨hb, 0, none⟩) t.held.length hcap) (by rfl) (by kernel_rfl) (by rfl) (fun Z hT hS => ?_) ?_
      · obtain ⟨g1, g2, g3⟩ := hS
        go_simp
      simp only [Act.put, List.setIfInBounds_toArray, List.set_cons_zero, List.set_cons_succ, List.getElem_toArray, List.getElem_cons_zero, List.getElem_cons_succ]
      refine RG.RunsIf.weak (v := ?_) (by rfl) (by rfl) (fun Z hT => ?_) ?_
      rotate_left
      · go_simp
        rfl
      simp only [Act.put, List.setIfInBounds_toArray, List.set_cons_zero, List.set_cons_succ, List.getElem_toArray, List.getElem_cons_zero, List.getElem_cons_succ]
      refine RG.RunsIf.strong (v := .int .i64 (c : Int)) (by rfl) (by kernel_rfl) (by rfl) (fun Z hT hS => ?_) ?_
      · obtain ⟨g1, g2, g3⟩ := hS
        go_simp
      simp only [Act.put, List.setIfInBounds_toArray, List.set_cons_zero, List.set_cons_succ, List.getElem_toArray, List.getElem_cons_zero, List.getElem_cons_succ]
      refine RG.RunsIf.weak (v := ?_) (by rfl) (by rfl) (fun Z hT => ?_) ?_
      rotate_left
      · go_simp
        rfl
      simp only [Act.put, List.setIfInBounds_toArray, List.set_cons_zero, List.set_cons_succ, List.getElem_toArray, List.getElem_cons_zero, List.getElem_cons_succ]
      refine RG.RunsIf.weak (v := ?_) (by rfl) (by rfl) (fun Z hT => ?_) ?_
      rotate_left
      · go_simp
        rfl
      simp only [Act.put, List.setIfInBounds_toArray, List.set_cons_zero, List.set_cons_succ, List.getElem_toArray, List.getElem_cons_zero, List.getElem_cons_succ]
      refine RG.RunsIf.weak (v := ?_) (by rfl) (by rfl) (fun Z hT => ?_) ?_
      rotate_left
      · go_simp
        rfl
      simp only [Act.put, List.setIfInBounds_toArray, List.set_cons_zero, List.set_cons_succ, List.getElem_toArray, List.getElem_cons_zero, List.getElem_cons_succ]
      refine RG.RunsIf.strong (v := .slice (some ⟨hb, 0, none⟩) t.held.length hcap) (by rfl) (by kernel_rfl) (by rfl) (fun Z hT hS => ?_) ?_
      · obtain ⟨g1, g2, g3⟩ := hS
        go_simp
      simp only [Act.put, List.setIfInBounds_toArray, List.set_cons_zero, List.set_cons_succ, List.getElem_toArray, List.getElem_cons_zero, List.getElem_cons_succ]
      refine RG.RunsIf.weak (v := ?_) (by rfl) (by rfl) (fun Z hT => ?_) ?_
      rotate_left
      · go_simp
        rfl
      simp only [Act.put, List.setIfInBounds_toArray, List.set_cons_zero, List.set_cons_succ, List.getElem_toArray, List.getElem_cons_zero, List.getElem_cons_succ]
      refine RG.RunsIf.strong (v := .int .i64 (c : Int)) (by rfl) (by kernel_rfl) (by rfl) (fun Z hT hS => ?_) ?_
      · obtain ⟨g1, g2, g3⟩ := hS
        go_simp
      simp only [Act.put, List.setIfInBounds_toArray, List.set_cons_zero, List.set_cons_succ, List.getElem_toArray, List.getElem_cons_zero, List.getElem_cons_succ]
      refine RG.RunsIf.weak (v := ?_) (by rfl) (by rfl) (fun Z hT => ?_) ?_
      rotate_left
      · go_simp
        rfl
      simp only [Act.put, List.setIfInBounds_toArray, List.set_cons_zero, List.set_cons_succ, List.getElem_toArray, List.getElem_cons_zero, List.getElem_cons_succ]
      refine RG.RunsIf.strong (v := qn m.qs c) (by rfl) (by kernel_rfl) (by rfl) (fun Z hT hS => ?_) ?_
      · obtain ⟨g1, g2, g3⟩ := hS
        go_simp
      simp only [Act.put, List.setIfInBounds_toArray, List.set_cons_zero, List.set_cons_succ, List.getElem_toArray, List.getElem_cons_zero, List.getElem_cons_succ]
      refine RG.RunsIf.weak (v := ?_) (by rfl) (by rfl) (fun Z hT => ?_) ?_
      rotate_left
      · go_simp
        rfl
      simp only [Act.put, List.setIfInBounds_toArray, List.set_cons_zero, List.set_cons_succ, List.getElem_toArray, List.getElem_cons_zero, List.getElem_cons_succ]
      exact RG.RunsIf.nil
    refine RG.wpL_step (i := 15) (by kernel_rfl) (by rfl) (by rfl) (fun KX hK => ?_)
    have HK := TW.hide hK
    clear hK
    go_simp
    have hAa : Below Ya.heap.size Ya (Ya.alloc (.cells #[.int .i64 v] 3)) := (Below.refl _ _).alloc (Nat.le_refl _) _
    have HSb : Hid ((Ya.alloc (.cells #[.int .i64 v] 3)).cell? ⟨g, 6, none⟩ = some (.slice (some ⟨hb, 0, none⟩) t.held.length hcap) ∧ (Ya.alloc (.cells #[.int .i64 v] 3)).cell? ⟨gi, 1, none⟩ = some (.int .i64 (c : Int)) ∧ (Ya.alloc (.cells #[.int .i64 v] 3)).cell? ⟨hb, c, none⟩ = some (qn m.qs c)) := ⟨keepC hAa HSa.out.1, keepC hAa HSa.out.2.1, keepC hAa HSa.out.2.2⟩
    refine HK.out _ _ trivial (fun _ => HSb.out) ?_
    clear HK KX
    have HMb := TW.hide (HMa.out.below hAa)
    have HEb := TW.hide (HEa.out.below hAa)
    have HIb := TW.hide (blk_keep HIa.out hAa)
    have HQb : Hid ((Ya.alloc (.cells #[.int .i64 v] 3)).cell? ⟨Ya.heap.size, 0, none⟩ = some (.int .i64 v)) := blk_cell (heap_alloc_new Ya _) rfl
    clear HMa HEa HIa HSa hAa
    generalize Ya.alloc _ = Yb at *
    generalize Ya.heap.size = gq at *
    refine RG.wpL_step (i := 16) (by kernel_rfl) (by rfl) (by rfl) (fun KX hK => ?_)
    have HK := TW.hide hK
    clear hK
    refine wp_append_q _ _ _ (by rfl) (qn m.qs c) (t.held.getD c []) (by rfl) (HMb.out.qus c hc) gq v (by rfl) HQb.out hq ?_
    intro v' W5 hQ5 hk5 hs5 hv5 hbl5
    obtain ⟨av, nv, cv, rfl⟩ := hQ5.form
    have HQc := HMb.out.qus c hc
    obtain ⟨_, hcur, hhb⟩ := row_is HMb.out.hld e6 (by omega)
    have hbg := hk5 g (blk_lt HMb.out.blk) (HQc.nB HMb.out.blk (by decide))
    have hbh := hk5 hb (blk_lt hhb) (HQc.nB hhb (by decide))
    have hbi := hk5 gi (blk_lt HIb.out) (HQc.nB HIb.out (by decide))
    have hbe := hk5 ge (blk_lt HEb.out) (HQc.nB HEb.out (by decide))
    have hne : hb ≠ ge := by
      rintro rfl
      have := hhb.symm.trans HEb.out
      simp at this
    have HS5 : Hid (W5.cell? ⟨g, 6, none⟩ = some (.slice (some ⟨hb, 0, none⟩) t.held.length hcap) ∧ W5.cell? ⟨gi, 1, none⟩ = some (.int .i64 (c : Int)) ∧ W5.cell? ⟨hb, c, none⟩ = some (qn m.qs c)) := ⟨by rw [cell_of hbg]; exact HSb.out.1, by rw [cell_of hbi]; exact HSb.out.2.1, by rw [cell_of hbh]; exact HSb.out.2.2⟩
    have HM5 := TW.hide (HMb.out.putQ e6 c hc _ _ hQ5 hk5 hv5 (hbl5 _ o HMb.out.bl HMb.out.bl.size (fun b hb => HMb.out.qB c b hb)))
    have HE5 : Hid (EvB (W5.setCell ⟨hb, c, none⟩ (.slice av nv cv)) ge ⟨k, 5, c, v, false⟩) := (HEb.out.keep hbe).setB hne
    have xz := HS5.out.2.2
    have fz : W5.frozen? ⟨hb, c, none⟩ = false := by simp [World.frozen?, hbh, hhb]
    clear hQ5 hk5 hs5 hv5 hbl5 HQc hhb hbg hbh hbi hbe hne HMb HEb HIb HQb HSb
    refine HK.out _ _ trivial (fun _ => HS5.out) ?_
    clear HK KX
    refine RG.wpL_take (fuel := 1) (a' := ?Ab) [17] (by kernel_rfl) (by kernel_rfl) (fun _ _ _ _ _ h => h) trivial (fun _ => HS5.out) ?rb ?_
    case rb =>
      refine RG.RunsIf.weak (v := ?_) (by rfl) (by rfl) (fun Z hT => ?_) ?_
      rotate_left
      · go_simp
        rfl
      simp only [Act.put, List.setIfInBounds_toArray, List.set_cons_zero, List.set_cons_succ, List.getElem_toArray, List.getElem_cons_zero, List.getElem_cons_succ]
      exact RG.RunsIf.nil
    refine RG.wpL_late (i := 18) (by kernel_rfl) (by rfl) (by rfl) (by kernel_rfl) (fun KX hK => ?_)
    have HK := TW.hide hK
    clear hK
    go_simp
    refine HK.out _ _ trivial ?_
    clear HK KX xz fz
    refine RG.wpL_done (by kernel_rfl) ?_ _
    refine NoPanic.normal ?_
    go_wp2
    rw [← HP.out]
    exact ⟨rfl, _, HM5.out, HE5.out, rfl, rfl, rfl⟩
end LW
end Go.Proofs.Ytghpfhoajcgghaa
