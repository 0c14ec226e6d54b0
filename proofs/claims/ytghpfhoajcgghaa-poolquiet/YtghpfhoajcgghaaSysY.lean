/-
  What Step of the document's machine does.
-/
import Derived.Test.YtghpfhoajcgghaaSysX
namespace Go.Proofs.Ytghpfhoajcgghaa
open Go.RowKit
set_option linter.unusedVariables false
set_option linter.unusedSimpArgs false
namespace LW
open Mc
/-- What a step leaves. -/
def StP (o : World) (g : Nat) (s : Syst) (pa : Option Addr) (pc : Nat) (ra : Option Addr) (rc : Nat) (m : WV) (t : St) (er : Int) : Ending → World → Prop := fun e w' => e = .returned (.int .i64 er) ∧ ∃ m', WM o w' g s pa pc ra rc t m' ∧ m'.gb = m.gb ∧ m'.gc = m.gc
theorem act_bad (s : Syst) (t : St) (k : Nat) : (act s t k).er ≠ 0 → (act s t k).st = t := by
  unfold act chan shar
  repeat' split
  all_goals first | (intro h; rfl) | (intro h; exact absurd rfl h)
theorem evinfo : (Try.prog.info? 45).map (fun i => (i.zero, i.size, i.bytes)) = some (some (.agg #[.int .i64 0, .int .i64 0, .int .i64 0, .int .i64 0, .bool false]), 5, 40) := by kernel_rfl
theorem on_no (s : Syst) (T : St) (k : Nat) (h : ¬ ((pg s (Mc.rn T k).prog).length : Int) ≤ (Mc.rn T k).pos + 1) : on s T.rns k = setP T k ((Mc.rn T k).pos + 1) := by
  unfold on setP
  show T.rns.set k { Mc.rn T k with pos := (Mc.rn T k).pos + 1, ended := (Mc.rn T k).ended || decide (((pg s (Mc.rn T k).prog).length : Int) ≤ (Mc.rn T k).pos + 1) } = _
  rw [decide_eq_false h, Bool.or_false]
theorem on_yes (s : Syst) (T : St) (k : Nat) (hk : k < T.rns.length) (h : ((pg s (Mc.rn T k).prog).length : Int) ≤ (Mc.rn T k).pos + 1) : on s T.rns k = (setP T k ((Mc.rn T k).pos + 1)).set k { Mc.rn { T with rns := setP T k ((Mc.rn T k).pos + 1) } k with ended := true } := by
  have hr : Mc.rn { T with rns := setP T k ((Mc.rn T k).pos + 1) } k = { Mc.rn T k with pos := (Mc.rn T k).pos + 1 } := by
    show (T.rns.set k { Mc.rn T k with pos := (Mc.rn T k).pos + 1 }).getD k r0 = _
    rw [List.getD_eq_getElem?_getD, List.getElem?_set_self hk]
    rfl
  rw [hr]
  unfold on setP
  show T.rns.set k { Mc.rn T k with pos := (Mc.rn T k).pos + 1, ended := (Mc.rn T k).ended || decide (((pg s (Mc.rn T k).prog).length : Int) ≤ (Mc.rn T k).pos + 1) } = _
  rw [decide_eq_true h, Bool.or_true, List.set_set]
set_option maxRecDepth 100000 in
set_option maxHeartbeats 4000000 in
theorem rstep {o : World} {g : Nat} {s : Syst} {pa : Option Addr} {pc : Nat} {ra : Option Addr} {rc : Nat} {t : St} {m : WV} (k : Nat) (w : World) (h : WM o w g s pa pc ra rc t m) (ho : Mc.Ok s) (hm : Mc.Nm s) (hg : Mc.Good s t) (hk : k < t.rns.length) (hc : can s t k = true) (hl : t.evs.length < 40000) :
    Calls Try.prog 22 #[.pointer (some ⟨g, 0, none⟩), .int .i64 k] w fun e w' => StP o g s pa pc ra rc m (Mc.step s t k) (bad s t k) e w' := by
  have he := can_going hc
  have hGR := hg.gr k hk
  have hps := hGR.ps he
  have hpr := hGR.pr
  have HIN : Hid (ins s t k = (s.progs.getD (Mc.rn t k).prog.toNat []).getD (Mc.rn t k).pos.toNat i0) := rfl
  obtain ⟨rb, rcap, e5, hrbB, _, _, x1⟩ := h.rn1 k hk
  have x0 : w.cell? ⟨rb, k * 11, none⟩ = some (.int .i64 (Mc.rn t k).prog) := x1 0 (by omega)
  replace x1 : w.cell? ⟨rb, k * 11 + 1, none⟩ = some (.int .i64 (Mc.rn t k).pos) := x1 1 (by omega)
  have c5 := h.c5
  rw [e5] at c5
  have HMw := TW.hide h
  have HGd := TW.hide hg
  have HCn := TW.hide hc
  have HOk := TW.hide ho
  have HNm := TW.hide hm
  have hsm := h.sm.below h.bl
  have y0 : w.cell? ⟨g, 0, none⟩ = some (.slice pa s.progs.length pc) := blk_cell h.blk rfl
  clear h hg hc ho hm hGR
  unfold pg at hps
  generalize (Mc.rn t k).prog = pr at *
  generalize (Mc.rn t k).pos = ps at *
  obtain ⟨pn, rfl⟩ : ∃ pn : Nat, pr = (pn : Int) := ⟨pr.toNat, by omega⟩
  obtain ⟨qn, rfl⟩ : ∃ qn : Nat, ps = (qn : Int) := ⟨ps.toNat, by omega⟩
  rw [Int.toNat_natCast] at hps HIN
  rw [Int.toNat_natCast] at HIN
  obtain ⟨pb, po, rfl, ib, io, ic, p0, q0, q1, q2, q3⟩ : ∃ pb po, pa = some ⟨pb, po, none⟩ ∧ ∃ ib io ic, w.cell? ⟨pb, po + pn, none⟩ = some (.slice (some ⟨ib, io, none⟩) (s.progs.getD pn []).length ic) ∧ w.cell? ⟨ib, io + qn * 4, none⟩ = some (.int .i64 (ins s t k).op) ∧ w.cell? ⟨ib, io + qn * 4 + 1, none⟩ = some (.int .i64 (ins s t k).a) ∧ w.cell? ⟨ib, io + qn * 4 + 2, none⟩ = some (.int .i64 (ins s t k).b) ∧ w.cell? ⟨ib, io + qn * 4 + 3, none⟩ = some (.int .i64 (ins s t k).c) := by
    rcases hsm.pr with h | ⟨pb, po, e, hc⟩
    · exfalso; have := hpr.2; rw [h] at this; simp at this; omega
    · obtain ⟨A, K, h1, h2⟩ := hc pn (by omega)
      rcases h2 with h2 | ⟨ib, io, e2, hc2⟩
      · exfalso; have := hps.2; rw [h2] at this; simp at this; omega
      · subst e2
        have h3 := hc2 qn (by omega)
        rw [← HIN.out] at h3
        exact ⟨pb, po, e, ib, io, K, h1, h3⟩
  clear hsm HIN
  have HBd : Hid (bad s t k = (act s t k).er) := rfl
  generalize hPOST : StP o g s (some ⟨pb, po, none⟩) pc ra rc m (Mc.step s t k) (bad s t k) = POST
  have HP := TW.hide hPOST
  clear hPOST
  have HIq : Hid ((⟨(ins s t k).op, (ins s t k).a, (ins s t k).b, (ins s t k).c⟩ : Ins) = ins s t k) := rfl
  have hp1 : (pn : Int) < (s.progs.length : Int) := by omega
  have hp0 : (0 : Int) ≤ (pn : Int) := by omega
  have hq1 : (qn : Int) < ((s.progs.getD pn []).length : Int) := by omega
  have hq0 : (0 : Int) ≤ (qn : Int) := by omega
  have hk1 : (k : Int) < (t.rns.length : Int) := by omega
  have hk0 : (0 : Int) ≤ (k : Int) := by omega
  generalize hil : (s.progs.getD pn []).length = il at p0 hq1
  generalize hpl : s.progs.length = pl at y0 hp1
  generalize hnn : t.rns.length = n at e5 c5 hk1
  have HIL := TW.hide hil
  have HPL := TW.hide hpl
  have HNN := TW.hide hnn
  clear hil hpl hnn hps hpr
  generalize hop : (ins s t k).op = op at q0 HIq
  generalize hia : (ins s t k).a = a0 at q1 HIq
  generalize hib : (ins s t k).b = a1 at q2 HIq
  generalize hic : (ins s t k).c = a2 at q3 HIq
  have HOP := TW.hide hop
  have HIA := TW.hide hia
  have HIB := TW.hide hib
  have HIC := TW.hide hic
  clear hop hia hib hic
  go_enter Try.func22, Try.ntmps22
  refine wp_seq_k fun K hK => ?_
  have HK := TW.hide hK
  clear hK
  go_wp2
  refine HK.out _ _ ?_
  clear HK K
  refine wp_seq_k fun K hK => ?_
  have HK := TW.hide hK
  clear hK
  refine wp_region_noPanic ?_
  refine RG.wp_region_L (fun Z => True) (fun Z => Below w.heap.size w Z) [] (by kernel_rfl) ?_
  refine RG.wpL_any fun Y hY => ?_
  have HTa : Hid (Below w.heap.size w Y) := by rw [hY]; exact below_drewN (Below.refl _ _) 1
  clear hY
  refine RG.wpL_take (fuel := 2) (a' := ?Aa) [0, 1, 2, 3, 4, 5, 6, 7, 8, 9, 10, 11, 12, 13, 14, 15, 16, 17, 18, 19, 20, 21, 22, 23, 24] (by kernel_rfl) (by kernel_rfl) (fun _ _ _ _ _ h => h) HTa.out (fun _ => trivial) ?ra ?_
  case ra =>
    refine RG.RunsIf.weak (v := ?_) (by rfl) (by rfl) (fun Z hT => ?_) ?_
    rotate_left
    · go_simp
      rfl
    simp only [Act.put, List.setIfInBounds_toArray, List.set_cons_zero, List.set_cons_succ, List.getElem_toArray, List.getElem_cons_zero, List.getElem_cons_succ]
    refine RG.RunsIf.weak (v := ?_) (by rfl) (by rfl) (fun Z hT => ?_) ?_
    rotate_left
    · go_simp
      rfl
    simp only [Act.put, List.setIfInBounds_toArray, List.set_cons_zero, List.set_cons_succ, List.getElem_toArray, List.getElem_cons_zero, List.getElem_cons_succ]
    refine RG.RunsIf.weak (v := ?_) (by rfl) (by rfl) (fun Z hT => ?_) ?_
    rotate_left
    · go_simp
      rfl
    simp only [Act.put, List.setIfInBounds_toArray, List.set_cons_zero, List.set_cons_succ, List.getElem_toArray, List.getElem_cons_zero, List.getElem_cons_succ]
    refine RG.RunsIf.weak (v := ?_) (by rfl) (by rfl) (fun Z hT => ?_) ?_
    rotate_left
    · go_simp
      rfl
    simp only [Act.put, List.setIfInBounds_toArray, List.set_cons_zero, List.set_cons_succ, List.getElem_toArray, List.getElem_cons_zero, List.getElem_cons_succ]
    refine RG.RunsIf.weak (v := .slice (some ⟨pb, po, none⟩) pl pc) (by rfl) (by rfl) (fun Z hT => ?_) ?_
    · have y0 := keepC hT y0
      go_simp
    simp only [Act.put, List.setIfInBounds_toArray, List.set_cons_zero, List.set_cons_succ, List.getElem_toArray, List.getElem_cons_zero, List.getElem_cons_succ]
    refine RG.RunsIf.weak (v := ?_) (by rfl) (by rfl) (fun Z hT => ?_) ?_
    rotate_left
    · go_simp
      rfl
    simp only [Act.put, List.setIfInBounds_toArray, List.set_cons_zero, List.set_cons_succ, List.getElem_toArray, List.getElem_cons_zero, List.getElem_cons_succ]
    refine RG.RunsIf.weak (v := ?_) (by rfl) (by rfl) (fun Z hT => ?_) ?_
    rotate_left
    · go_simp
      rfl
    simp only [Act.put, List.setIfInBounds_toArray, List.set_cons_zero, List.set_cons_succ, List.getElem_toArray, List.getElem_cons_zero, List.getElem_cons_succ]
    refine RG.RunsIf.weak (v := ?_) (by rfl) (by rfl) (fun Z hT => ?_) ?_
    rotate_left
    · go_simp
      rfl
    simp only [Act.put, List.setIfInBounds_toArray, List.set_cons_zero, List.set_cons_succ, List.getElem_toArray, List.getElem_cons_zero, List.getElem_cons_succ]
    refine RG.RunsIf.weak (v := .slice (some ⟨rb, 0, none⟩) n rcap) (by rfl) (by rfl) (fun Z hT => ?_) ?_
    · have c5 := keepC hT c5; have x0 := keepC hT x0; have x1 := keepC hT x1
      go_simp
    simp only [Act.put, List.setIfInBounds_toArray, List.set_cons_zero, List.set_cons_succ, List.getElem_toArray, List.getElem_cons_zero, List.getElem_cons_succ]
    refine RG.RunsIf.weak (v := ?_) (by rfl) (by rfl) (fun Z hT => ?_) ?_
    rotate_left
    · go_simp
      rfl
    simp only [Act.put, List.setIfInBounds_toArray, List.set_cons_zero, List.set_cons_succ, List.getElem_toArray, List.getElem_cons_zero, List.getElem_cons_succ]
    refine RG.RunsIf.weak (v := ?_) (by rfl) (by rfl) (fun Z hT => ?_) ?_
    rotate_left
    · go_simp
      rfl
    simp only [Act.put, List.setIfInBounds_toArray, List.set_cons_zero, List.set_cons_succ, List.getElem_toArray, List.getElem_cons_zero, List.getElem_cons_succ]
    refine RG.RunsIf.weak (v := ?_) (by rfl) (by rfl) (fun Z hT => ?_) ?_
    rotate_left
    · go_simp
      rfl
    simp only [Act.put, List.setIfInBounds_toArray, List.set_cons_zero, List.set_cons_succ, List.getElem_toArray, List.getElem_cons_zero, List.getElem_cons_succ]
    refine RG.RunsIf.weak (v := .int .i64 (pn : Int)) (by rfl) (by rfl) (fun Z hT => ?_) ?_
    · have c5 := keepC hT c5; have x0 := keepC hT x0; have x1 := keepC hT x1
      go_simp
    simp only [Act.put, List.setIfInBounds_toArray, List.set_cons_zero, List.set_cons_succ, List.getElem_toArray, List.getElem_cons_zero, List.getElem_cons_succ]
    refine RG.RunsIf.weak (v := ?_) (by rfl) (by rfl) (fun Z hT => ?_) ?_
    rotate_left
    · go_simp
      rfl
    simp only [Act.put, List.setIfInBounds_toArray, List.set_cons_zero, List.set_cons_succ, List.getElem_toArray, List.getElem_cons_zero, List.getElem_cons_succ]
    refine RG.RunsIf.weak (v := .slice (some ⟨ib, io, none⟩) il ic) (by rfl) (by rfl) (fun Z hT => ?_) ?_
    · have p0 := keepC hT p0
      go_simp
    simp only [Act.put, List.setIfInBounds_toArray, List.set_cons_zero, List.set_cons_succ, List.getElem_toArray, List.getElem_cons_zero, List.getElem_cons_succ]
    refine RG.RunsIf.weak (v := ?_) (by rfl) (by rfl) (fun Z hT => ?_) ?_
    rotate_left
    · go_simp
      rfl
    simp only [Act.put, List.setIfInBounds_toArray, List.set_cons_zero, List.set_cons_succ, List.getElem_toArray, List.getElem_cons_zero, List.getElem_cons_succ]
    refine RG.RunsIf.weak (v := ?_) (by rfl) (by rfl) (fun Z hT => ?_) ?_
    rotate_left
    · go_simp
      rfl
    simp only [Act.put, List.setIfInBounds_toArray, List.set_cons_zero, List.set_cons_succ, List.getElem_toArray, List.getElem_cons_zero, List.getElem_cons_succ]
    refine RG.RunsIf.weak (v := ?_) (by rfl) (by rfl) (fun Z hT => ?_) ?_
    rotate_left
    · go_simp
      rfl
    simp only [Act.put, List.setIfInBounds_toArray, List.set_cons_zero, List.set_cons_succ, List.getElem_toArray, List.getElem_cons_zero, List.getElem_cons_succ]
    refine RG.RunsIf.weak (v := .slice (some ⟨rb, 0, none⟩) n rcap) (by rfl) (by rfl) (fun Z hT => ?_) ?_
    · have c5 := keepC hT c5; have x0 := keepC hT x0; have x1 := keepC hT x1
      go_simp
    simp only [Act.put, List.setIfInBounds_toArray, List.set_cons_zero, List.set_cons_succ, List.getElem_toArray, List.getElem_cons_zero, List.getElem_cons_succ]
    refine RG.RunsIf.weak (v := ?_) (by rfl) (by rfl) (fun Z hT => ?_) ?_
    rotate_left
    · go_simp
      rfl
    simp only [Act.put, List.setIfInBounds_toArray, List.set_cons_zero, List.set_cons_succ, List.getElem_toArray, List.getElem_cons_zero, List.getElem_cons_succ]
    refine RG.RunsIf.weak (v := ?_) (by rfl) (by rfl) (fun Z hT => ?_) ?_
    rotate_left
    · go_simp
      rfl
    simp only [Act.put, List.setIfInBounds_toArray, List.set_cons_zero, List.set_cons_succ, List.getElem_toArray, List.getElem_cons_zero, List.getElem_cons_succ]
    refine RG.RunsIf.weak (v := ?_) (by rfl) (by rfl) (fun Z hT => ?_) ?_
    rotate_left
    · go_simp
      rfl
    simp only [Act.put, List.setIfInBounds_toArray, List.set_cons_zero, List.set_cons_succ, List.getElem_toArray, List.getElem_cons_zero, List.getElem_cons_succ]
    refine RG.RunsIf.weak (v := .int .i64 (qn : Int)) (by rfl) (by rfl) (fun Z hT => ?_) ?_
    · have c5 := keepC hT c5; have x0 := keepC hT x0; have x1 := keepC hT x1
      go_simp
    simp only [Act.put, List.setIfInBounds_toArray, List.set_cons_zero, List.set_cons_succ, List.getElem_toArray, List.getElem_cons_zero, List.getElem_cons_succ]
    refine RG.RunsIf.weak (v := ?_) (by rfl) (by rfl) (fun Z hT => ?_) ?_
    rotate_left
    · go_simp
      rfl
    simp only [Act.put, List.setIfInBounds_toArray, List.set_cons_zero, List.set_cons_succ, List.getElem_toArray, List.getElem_cons_zero, List.getElem_cons_succ]
    refine RG.RunsIf.weak (v := .agg #[.int .i64 op, .int .i64 a0, .int .i64 a1, .int .i64 a2]) (by rfl) (by rfl) (fun Z hT => ?_) ?_
    · have q0 := keepC hT q0; have q1 := keepC hT q1; have q2 := keepC hT q2; have q3 := keepC hT q3
      go_simp
    simp only [Act.put, List.setIfInBounds_toArray, List.set_cons_zero, List.set_cons_succ, List.getElem_toArray, List.getElem_cons_zero, List.getElem_cons_succ]
    exact RG.RunsIf.nil
  have HT1 : Hid (Below w.heap.size w (Y.alloc (.cells #[.int .i64 0, .int .i64 0, .int .i64 0, .int .i64 0] 53))) := HTa.out.alloc HTa.out.size _
  refine RG.wpL_step (i := 25) (by kernel_rfl) (by rfl) (by rfl) (fun KX hK => ?_)
  have HK := TW.hide hK
  clear hK
  go_simp
  refine HK.out _ _ HT1.out (fun _ => trivial) ?_
  clear HK KX
  have HT2 : Hid (Below w.heap.size w ((Y.alloc (.cells #[.int .i64 0, .int .i64 0, .int .i64 0, .int .i64 0] 53)).setRow Y.heap.size #[.int .i64 op, .int .i64 a0, .int .i64 a1, .int .i64 a2])) := below_setRow HT1.out HTa.out.size
  have NI : Hid (((Y.alloc (.cells #[.int .i64 0, .int .i64 0, .int .i64 0, .int .i64 0] 53)).setRow Y.heap.size #[.int .i64 op, .int .i64 a0, .int .i64 a1, .int .i64 a2]).heap[Y.heap.size]? = some (.cells #[.int .i64 op, .int .i64 a0, .int .i64 a1, .int .i64 a2] 53 (0, 0))) := setRow_heap _ _ _ _ _ _ (heap_alloc_new Y _)
  refine RG.wpL_step (i := 26) (by kernel_rfl) (by rfl) (by rfl) (fun KX hK => ?_)
  have HK := TW.hide hK
  clear hK
  refine wp_store_row 53 _ _ (by rfl) Y.heap.size #[.int .i64 op, .int .i64 a0, .int .i64 a1, .int .i64 a2] (by rfl) (by rfl) 53 _ (heap_alloc_new Y _) (by kernel_rfl) (by rfl) (by simp [Value.oneCell']) ?_
  refine HK.out _ _ HT2.out (fun _ => trivial) ?_
  clear HK KX HT1 HTa
  generalize World.setRow _ _ _ = V at *
  generalize Y.heap.size = gi at *
  refine RG.wpL_done (by kernel_rfl) ?_ _
  refine NoPanic.normal ?_
  refine HK.out _ _ ?_
  clear HK
  have HMV := TW.hide (HMw.out.below HT2.out)
  have HlV : Hid (m.ev.ownBlock ≠ some V.heap.size) := fun e => by have := own_lt HMV.out.evs _ e; omega
  have HgV : Hid (o.heap.size ≤ V.heap.size) := HMV.out.bl.size
  clear HMw HT2 c5 x0 x1 y0 p0 q0 q1 q2 q3
  have hB1 : Below V.heap.size V ((V.alloc (.cells #[.int .i64 0, .int .i64 0, .int .i64 0, .int .i64 0, .bool false] 45)).setRow V.heap.size #[.int .i64 (k : Int), .int .i64 op, .int .i64 0, .int .i64 0, .bool false]) := below_setRow ((Below.refl _ _).alloc (Nat.le_refl _) _) (Nat.le_refl _)
  have NE1 : Hid (((V.alloc (.cells #[.int .i64 0, .int .i64 0, .int .i64 0, .int .i64 0, .bool false] 45)).setRow V.heap.size #[.int .i64 (k : Int), .int .i64 op, .int .i64 0, .int .i64 0, .bool false]).heap[V.heap.size]? = some (.cells #[.int .i64 (k : Int), .int .i64 op, .int .i64 0, .int .i64 0, .bool false] 45 (0, 0))) := setRow_heap _ _ _ _ _ _ (heap_alloc_new V _)
  have HI1 := TW.hide (blk_keep NI.out hB1)
  have HM1 := TW.hide (HMV.out.below hB1)
  clear hB1
  have z0 := (cellsY4 NI.out).1
  refine wp_seq_k fun K hK => ?_
  have HK := TW.hide hK
  clear hK
  go_wp2_with (refine wpList_store_row (by rfl) 45 _ _ (by rfl) V.heap.size #[.int .i64 (k : Int), .int .i64 op, .int .i64 0, .int .i64 0, .bool false] (by rfl) (by rfl) 45 _ (heap_alloc_new V _) (by kernel_rfl) (by rfl) (by simp [Value.oneCell']) ?_)
  refine HK.out _ _ ?_
  clear HK
  generalize World.setRow _ _ _ = X at *
  simp only [Act.put, List.setIfInBounds_toArray, List.set_cons_zero, List.set_cons_succ, List.getElem_toArray, List.getElem_cons_zero, List.getElem_cons_succ]
  clear NI HMV z0
  generalize V.heap.size = ge at *
  have HE1 : Hid (EvB X ge ⟨k, op, 0, 0, false⟩) := NE1.out
  clear NE1
  obtain ⟨z0, z1, z2, z3⟩ := cellsY4 HI1.out
  have HCh : Hid (5 ≤ op ∧ op ≤ 7 → ∀ W, WM o W g s (some ⟨pb, po, none⟩) pc ra rc t m → EvB W ge ⟨k, op, a0, 0, false⟩ → Calls Try.prog 38 #[.pointer (some ⟨g, 0, none⟩), .int .i64 k, .agg #[.int .i64 op, .int .i64 a0, .int .i64 a1, .int .i64 a2], .pointer (some ⟨ge, 0, none⟩)] W (ChP o g s (some ⟨pb, po, none⟩) pc ra rc m ge k op (act s t k))) := fun h W hW hE => by
    have := rchan k ge W hW HOk.out HGd.out hk HCn.out (by rw [HOP.out]; exact h) (by rw [HOP.out, HIA.out]; exact hE) HgV.out HlV.out
    rw [HOP.out, HIA.out, HIB.out, HIC.out] at this
    unfold act
    rw [HOP.out, if_pos h]
    exact this
  have HSh : Hid (8 ≤ op ∧ op ≤ 15 → ∀ W, WM o W g s (some ⟨pb, po, none⟩) pc ra rc t m → EvB W ge ⟨k, op, a0, 0, false⟩ → Calls Try.prog 39 #[.pointer (some ⟨g, 0, none⟩), .int .i64 k, .agg #[.int .i64 op, .int .i64 a0, .int .i64 a1, .int .i64 a2], .pointer (some ⟨ge, 0, none⟩)] W (ChP o g s (some ⟨pb, po, none⟩) pc ra rc m ge k op (act s t k))) := fun h W hW hE => by
    have := rshar k ge W hW HOk.out HGd.out hk HCn.out (by rw [HOP.out]; exact h) (by rw [HOP.out, HIA.out]; exact hE) HgV.out HlV.out
    rw [HOP.out, HIA.out, HIB.out, HIC.out] at this
    unfold act
    rw [HOP.out, if_neg (by omega), if_pos h]
    exact this
  have HOw : Hid (¬ (5 ≤ op ∧ op ≤ 15) → ∀ W, WM o W g s (some ⟨pb, po, none⟩) pc ra rc t m → EvB W ge ⟨k, op, 0, 0, false⟩ → Calls Try.prog 40 #[.pointer (some ⟨g, 0, none⟩), .int .i64 k, .agg #[.int .i64 op, .int .i64 a0, .int .i64 a1, .int .i64 a2]] W fun e w' => e = .returned (.tuple #[]) ∧ WM o w' g s (some ⟨pb, po, none⟩) pc ra rc (act s t k).st m ∧ EvB w' ge ⟨k, op, (act s t k).a, (act s t k).v, (act s t k).sh⟩ ∧ (act s t k).er = 0) := fun h W hW hE => by
    have := rown k W hW HOk.out HGd.out hk he
    rw [HOP.out, HIA.out, HIB.out, HIC.out] at this
    unfold act
    rw [HOP.out, if_neg (by omega), if_neg (by omega)]
    refine this.mono ?_
    rintro e w' ⟨h1, h2, h3⟩
    exact ⟨h1, h2, h3 _ _ hE, rfl⟩
  refine wp_seq_k fun K1 hK1 => ?_
  have HR1 : Hid (∀ {u2 u3 u4 u7 u8 u9 u10 u11 u12 u13 u14 u15 u16 u17 u18 u19 u20 u21 u22 u23 u24 u25 u26 u27 u28 u29 u30 u31 u32 u33 u34 u35 u36 u37 u38 u39 u40 u41 u42 u43 u44 u45 u46 u47 u48 u49 u50 u51 u52 u53 u54 u55 u56 u57 u58 u59 u60 u61 u62 u63 u64 u65 u66 u67 u68 u69 u70 u71 u72 u73 u74 u75 u76 u77 u78 u79 u80 u81 u82 u83 u84 u85 u86 u87 u88 u89 u90 u91 u92 u93 u94 u95 u96 u97 u98 u99 u100 u101 u102 u103 u104 u105 u106 u107 u108 u109 u110 u111 u112 u113 u114 u115 u116 u117 u118 u119 u120 u121 u122 u123 u124 u125 u126 u127 u128 u129 u130 u131 u132 u133 : Value} (W : World), WM o W g s (some ⟨pb, po, none⟩) pc ra rc t m → EvB W ge ⟨k, op, if 5 ≤ op ∧ op ≤ 15 then a0 else 0, 0, false⟩ → W.heap[gi]? = some (.cells #[.int .i64 op, .int .i64 a0, .int .i64 a1, .int .i64 a2] 53 (0, 0)) → K1 { tmps := #[.pointer (some ⟨g, 0, none⟩), .int .i64 (k : Int), u2, u3, u4, .pointer (some ⟨gi, 0, none⟩), .pointer (some ⟨ge, 0, none⟩), u7, u8, u9, u10, u11, u12, u13, u14, u15, u16, u17, u18, u19, u20, u21, u22, u23, u24, u25, u26, u27, u28, u29, u30, u31, u32, u33, u34, u35, u36, u37, u38, u39, u40, u41, u42, u43, u44, u45, u46, u47, u48, u49, u50, u51, u52, u53, u54, u55, u56, u57, u58, u59, u60, u61, u62, u63, u64, u65, u66, u67, u68, u69, u70, u71, u72, u73, u74, u75, u76, u77, u78, u79, u80, u81, u82, u83, u84, u85, u86, u87, u88, u89, u90, u91, u92, u93, u94, u95, u96, u97, u98, u99, u100, u101, u102, u103, u104, u105, u106, u107, u108, u109, u110, u111, u112, u113, u114, u115, u116, u117, u118, u119, u120, u121, u122, u123, u124, u125, u126, u127, u128, u129, u130, u131, u132, u133], defers := [] } W) := by
    intro u2 u3 u4 u7 u8 u9 u10 u11 u12 u13 u14 u15 u16 u17 u18 u19 u20 u21 u22 u23 u24 u25 u26 u27 u28 u29 u30 u31 u32 u33 u34 u35 u36 u37 u38 u39 u40 u41 u42 u43 u44 u45 u46 u47 u48 u49 u50 u51 u52 u53 u54 u55 u56 u57 u58 u59 u60 u61 u62 u63 u64 u65 u66 u67 u68 u69 u70 u71 u72 u73 u74 u75 u76 u77 u78 u79 u80 u81 u82 u83 u84 u85 u86 u87 u88 u89 u90 u91 u92 u93 u94 u95 u96 u97 u98 u99 u100 u101 u102 u103 u104 u105 u106 u107 u108 u109 u110 u111 u112 u113 u114 u115 u116 u117 u118 u119 u120 u121 u122 u123 u124 u125 u126 u127 u128 u129 u130 u131 u132 u133 W hW hE hI
    refine hK1 _ _ ?_
    clear hK1 K1
    have HMW := TW.hide hW
    have HEW := TW.hide hE
    have HIW := TW.hide hI
    clear hW hE hI HM1 HE1 HI1 z0 z1 z2 z3
    obtain ⟨z0, z1, z2, z3⟩ := cellsY4 HIW.out
    refine wp_seq_k fun K hK => ?_
    have HK := TW.hide hK
    clear hK
    go_wp2
    refine HK.out _ _ ?_
    clear HK K
    refine wp_seq_k fun K2 hK2 => ?_
    have HR2 : Hid (∀ {u2 u3 u4 u5 u8 u9 u10 u11 u12 u13 u14 u15 u16 u17 u18 u19 u20 u21 u22 u23 u24 u25 u26 u27 u28 u29 u30 u31 u32 u33 u34 u35 u36 u37 u38 u39 u40 u41 u42 u43 u44 u45 u46 u47 u48 u49 u50 u51 u52 u53 u54 u55 u56 u57 u58 u59 u60 u61 u62 u63 u64 u65 u66 u67 u68 u69 u70 u71 u72 u73 u74 u75 u76 u77 u78 u79 u80 u81 u82 u83 u84 u85 u86 u87 u88 u89 u90 u91 u92 u93 u94 u95 u96 u97 u98 u99 u100 u101 u102 u103 u104 u105 u106 u107 u108 u109 u110 u111 u112 u113 u114 u115 u116 u117 u118 u119 u120 u121 u122 u123 u124 u125 u126 u127 u128 u129 u130 u131 u132 u133 : Value} (W1 : World) (m1 : WV), WM o W1 g s (some ⟨pb, po, none⟩) pc ra rc (act s t k).st m1 → EvB W1 ge ⟨k, op, (act s t k).a, (act s t k).v, (act s t k).sh⟩ → m1.ev = m.ev ∧ m1.gb = m.gb ∧ m1.gc = m.gc → K2 { tmps := #[.pointer (some ⟨g, 0, none⟩), .int .i64 (k : Int), u2, u3, u4, u5, .pointer (some ⟨ge, 0, none⟩), .int .i64 (act s t k).er, u8, u9, u10, u11, u12, u13, u14, u15, u16, u17, u18, u19, u20, u21, u22, u23, u24, u25, u26, u27, u28, u29, u30, u31, u32, u33, u34, u35, u36, u37, u38, u39, u40, u41, u42, u43, u44, u45, u46, u47, u48, u49, u50, u51, u52, u53, u54, u55, u56, u57, u58, u59, u60, u61, u62, u63, u64, u65, u66, u67, u68, u69, u70, u71, u72, u73, u74, u75, u76, u77, u78, u79, u80, u81, u82, u83, u84, u85, u86, u87, u88, u89, u90, u91, u92, u93, u94, u95, u96, u97, u98, u99, u100, u101, u102, u103, u104, u105, u106, u107, u108, u109, u110, u111, u112, u113, u114, u115, u116, u117, u118, u119, u120, u121, u122, u123, u124, u125, u126, u127, u128, u129, u130, u131, u132, u133], defers := [] } W1) := by
      intro u2 u3 u4 u5 u8 u9 u10 u11 u12 u13 u14 u15 u16 u17 u18 u19 u20 u21 u22 u23 u24 u25 u26 u27 u28 u29 u30 u31 u32 u33 u34 u35 u36 u37 u38 u39 u40 u41 u42 u43 u44 u45 u46 u47 u48 u49 u50 u51 u52 u53 u54 u55 u56 u57 u58 u59 u60 u61 u62 u63 u64 u65 u66 u67 u68 u69 u70 u71 u72 u73 u74 u75 u76 u77 u78 u79 u80 u81 u82 u83 u84 u85 u86 u87 u88 u89 u90 u91 u92 u93 u94 u95 u96 u97 u98 u99 u100 u101 u102 u103 u104 u105 u106 u107 u108 u109 u110 u111 u112 u113 u114 u115 u116 u117 u118 u119 u120 u121 u122 u123 u124 u125 u126 u127 u128 u129 u130 u131 u132 u133 W1 m1 hW1 hE1 hm1
      refine hK2 _ _ ?_
      clear hK2 K2
      have HMid := TW.hide (act_mid HOk.out HNm.out HGd.out hk HCn.out)
      have HAe : Hid ((act s t k).st.evs = t.evs) := act_evs s t k
      have HAb : Hid ((act s t k).er ≠ 0 → (act s t k).st = t) := act_bad s t k
      have HSt : Hid (Mc.step s t k = if (act s t k).er ≠ 0 then { t with evs := t.evs ++ [⟨k, op, (act s t k).a, (act s t k).v, (act s t k).sh⟩] } else { (act s t k).st with rns := on s (act s t k).st.rns k, evs := t.evs ++ [⟨k, op, (act s t k).a, (act s t k).v, (act s t k).sh⟩] }) := by
        show _ = _
        rw [← HOP.out]
        rfl
      rw [HBd.out] at HP
      generalize act s t k = A at *
      have HM_ := TW.hide hW1
      have HE_ := TW.hide hE1
      have HV1 : Hid (m1.ev.ownBlock ≠ some ge) := by rw [hm1.1]; exact HlV.out
      have HGG := TW.hide hm1.2
      have hlE : A.st.evs.length < 40000 := by rw [HAe.out]; exact hl
      clear hW1 hE1 hm1 HMW HEW HIW z0 z1 z2 z3
      refine wp_seq_k fun K3 hK3 => ?_
      have HK3 := TW.hide hK3
      clear hK3
      refine wp_region_noPanic ?_
      refine RG.wp_region_L (fun Z => Z.cell? ⟨g, 11, none⟩ = some m1.ev ∧ Z.heap[ge]? = some (.cells #[.int .i64 (k : Int), .int .i64 op, .int .i64 A.a, .int .i64 A.v, .bool A.sh] 45 (0, 0))) (fun Z => True) [10] (by kernel_rfl) ?_
      refine RG.wpL_any fun Ya hY => ?_
      have HBa : Hid (Below W1.heap.size W1 Ya) := by rw [hY]; exact below_drewN (Below.refl _ _) 1
      clear hY
      have HMa := TW.hide (HM_.out.below HBa.out)
      have HEa := TW.hide (HE_.out.below HBa.out)
      have HSa : Hid (Ya.cell? ⟨g, 11, none⟩ = some m1.ev ∧ Ya.heap[ge]? = some (.cells #[.int .i64 (k : Int), .int .i64 op, .int .i64 A.a, .int .i64 A.v, .bool A.sh] 45 (0, 0))) := ⟨HMa.out.c11, HEa.out⟩
      clear HM_ HE_ HBa
      refine RG.wpL_take (fuel := 5) (a' := ?Af) [0, 1, 2, 3, 4, 5] (by kernel_rfl) (by kernel_rfl) (fun _ _ _ _ _ h => h) trivial (fun _ => HSa.out) ?rf ?_
      case rf =>
        refine RG.RunsIf.weak (v := ?_) (by rfl) (by rfl) (fun Z hT => ?_) ?_
        rotate_left
        · go_simp
          rfl
        simp only [Act.put, List.setIfInBounds_toArray, List.set_cons_zero, List.set_cons_succ, List.getElem_toArray, List.getElem_cons_zero, List.getElem_cons_succ]
        refine RG.RunsIf.weak (v := ?_) (by rfl) (by rfl) (fun Z hT => ?_) ?_
        rotate_left
        · go_simp
          rfl
        simp only [Act.put, List.setIfInBounds_toArray, List.set_cons_zero, List.set_cons_succ, List.getElem_toArray, List.getElem_cons_zero, List.getElem_cons_succ]
        refine RG.RunsIf.weak (v := ?_) (by rfl) (by rfl) (fun Z hT => ?_) ?_
        rotate_left
        · go_simp
          rfl
        simp only [Act.put, List.setIfInBounds_toArray, List.set_cons_zero, List.set_cons_succ, List.getElem_toArray, List.getElem_cons_zero, List.getElem_cons_succ]
        refine RG.RunsIf.weak (v := ?_) (by rfl) (by rfl) (fun Z hT => ?_) ?_
        rotate_left
        · go_simp
          rfl
        simp only [Act.put, List.setIfInBounds_toArray, List.set_cons_zero, List.set_cons_succ, List.getElem_toArray, List.getElem_cons_zero, List.getElem_cons_succ]
        refine RG.RunsIf.strong (v := m1.ev) (by rfl) (by kernel_rfl) (by rfl) (fun Z hT hS => ?_) ?_
        · obtain ⟨g1, g2⟩ := hS
          go_simp
        simp only [Act.put, List.setIfInBounds_toArray, List.set_cons_zero, List.set_cons_succ, List.getElem_toArray, List.getElem_cons_zero, List.getElem_cons_succ]
        refine RG.RunsIf.strong (v := .agg #[.int .i64 (k : Int), .int .i64 op, .int .i64 A.a, .int .i64 A.v, .bool A.sh]) (by rfl) (by kernel_rfl) (by rfl) (fun Z hT hS => exec_load_row' 45 _ (by rfl) ge (by rfl) 45 #[.int .i64 (k : Int), .int .i64 op, .int .i64 A.a, .int .i64 A.v, .bool A.sh] (0, 0) _ hS.2 Try.underlying45 rfl (by kernel_rfl)) ?_
        simp only [Act.put, List.setIfInBounds_toArray, List.set_cons_zero, List.set_cons_succ, List.getElem_toArray, List.getElem_cons_zero, List.getElem_cons_succ]
        exact RG.RunsIf.nil
      refine RG.wpL_step (i := 6) (by kernel_rfl) (by rfl) (by rfl) (fun KX hK => ?_)
      have HK := TW.hide hK
      clear hK
      go_simp
      have hAa : Below Ya.heap.size Ya (Ya.alloc (.cells #[.int .i64 (k : Int), .int .i64 op, .int .i64 A.a, .int .i64 A.v, .bool A.sh] 45)) := (Below.refl _ _).alloc (Nat.le_refl _) _
      have HMb := TW.hide (HMa.out.below hAa)
      have HEb := TW.hide (HEa.out.below hAa)
      have HSb : Hid ((Ya.alloc (.cells #[.int .i64 (k : Int), .int .i64 op, .int .i64 A.a, .int .i64 A.v, .bool A.sh] 45)).cell? ⟨g, 11, none⟩ = some m1.ev ∧ (Ya.alloc (.cells #[.int .i64 (k : Int), .int .i64 op, .int .i64 A.a, .int .i64 A.v, .bool A.sh] 45)).heap[ge]? = some (.cells #[.int .i64 (k : Int), .int .i64 op, .int .i64 A.a, .int .i64 A.v, .bool A.sh] 45 (0, 0))) := ⟨HMb.out.c11, HEb.out⟩
      refine HK.out _ _ trivial (fun _ => HSb.out) ?_
      clear HK KX
      have HQb : Hid (∀ j u, ([.int .i64 (k : Int), .int .i64 op, .int .i64 A.a, .int .i64 A.v, .bool A.sh] : List Value)[j]? = some u → (Ya.alloc (.cells #[.int .i64 (k : Int), .int .i64 op, .int .i64 A.a, .int .i64 A.v, .bool A.sh] 45)).cell? ((⟨Ya.heap.size, 0, none⟩ : Addr).add j) = some u) := fun j u hj => by
        rw [Addr.add_mid, Nat.zero_add]
        exact blk_cell (heap_alloc_new Ya _) (by simpa using hj)
      clear HMa HEa HSa hAa
      generalize Ya.alloc _ = Yb at *
      generalize Ya.heap.size = gq at *
      refine RG.wpL_step (i := 7) (by kernel_rfl) (by rfl) (by rfl) (fun KX hK => ?_)
      have HK := TW.hide hK
      clear hK
      obtain ⟨ie, hie, hz0, hz1, hz2⟩ := info_parts' evinfo
      refine wp_append_own _ _ _ 36 (by rfl) o.heap.size 45 ie _ 5 40 Try.underlying36 hie hz0 hz1 hz2 rfl (by decide) m1.ev A.st.evs.length (evC A.st.evs) (by rfl) HMb.out.evs ⟨gq, 0, none⟩ 1 1 [.int .i64 (k : Int), .int .i64 op, .int .i64 A.a, .int .i64 A.v, .bool A.sh] (by rfl) rfl HQb.out (by simp [Value.oneCell']) (by unfold maxLen; omega) (by omega) HMb.out.bl.size ?_
      intro v' W5 hown5 hgr5 _
      obtain ⟨av, nv, cv, rfl⟩ : ∃ a n c, v' = .slice a n c := by
        rcases hown5.2 with ⟨e, _⟩ | ⟨_, _, _, e, _⟩
        · exact ⟨_, _, _, e⟩
        · exact ⟨_, _, _, e⟩
      have hbg := hgr5.block g (blk_lt HMb.out.blk) (fun e => own_neB HMb.out.evs HMb.out.blk (by decide) e.symm)
      have hbe := hgr5.block ge (blk_lt HEb.out) (fun e => HV1.out e.symm)
      have HS5 : Hid (W5.cell? ⟨g, 11, none⟩ = some m1.ev ∧ W5.heap[ge]? = some (.cells #[.int .i64 (k : Int), .int .i64 op, .int .i64 A.a, .int .i64 A.v, .bool A.sh] 45 (0, 0))) := ⟨by rw [cell_of hbg]; exact HSb.out.1, by rw [hbe]; exact HSb.out.2⟩
      have HMB := TW.hide (HMb.out.addEv ⟨k, op, A.a, A.v, A.sh⟩ (.slice av nv cv) hown5 hgr5)
      have cz := HS5.out.1
      have fz : W5.frozen? ⟨g, 11, none⟩ = false := by simp [World.frozen?, hbg, HMb.out.blk]
      clear hown5 hgr5 hbg hbe HMb HEb HQb HSb hie hz0 hz1 hz2
      refine HK.out _ _ trivial (fun _ => HS5.out) ?_
      clear HK KX
      refine RG.wpL_take (fuel := 1) (a' := ?Ah) [8, 9] (by kernel_rfl) (by kernel_rfl) (fun _ _ _ _ _ h => h) trivial (fun _ => HS5.out) ?rh ?_
      case rh =>
        refine RG.RunsIf.weak (v := ?_) (by rfl) (by rfl) (fun Z hT => ?_) ?_
        rotate_left
        · go_simp
          rfl
        simp only [Act.put, List.setIfInBounds_toArray, List.set_cons_zero, List.set_cons_succ, List.getElem_toArray, List.getElem_cons_zero, List.getElem_cons_succ]
        refine RG.RunsIf.weak (v := ?_) (by rfl) (by rfl) (fun Z hT => ?_) ?_
        rotate_left
        · go_simp
          rfl
        simp only [Act.put, List.setIfInBounds_toArray, List.set_cons_zero, List.set_cons_succ, List.getElem_toArray, List.getElem_cons_zero, List.getElem_cons_succ]
        exact RG.RunsIf.nil
      refine RG.wpL_late (i := 10) (by kernel_rfl) (by rfl) (by rfl) (by kernel_rfl) (fun KX hK => ?_)
      have HK := TW.hide hK
      clear hK
      go_simp
      refine HK.out _ _ trivial ?_
      clear HK KX cz fz HS5
      refine RG.wpL_done (by kernel_rfl) ?_ _
      refine NoPanic.normal ?_
      refine HK3.out _ _ ?_
      clear HK3
      generalize W5.setCell _ _ = B at *
      have HG2 : Hid (({ m1 with ev := .slice av nv cv } : WV).gb = m.gb ∧ ({ m1 with ev := .slice av nv cv } : WV).gc = m.gc) := HGG.out
      clear HGG
      generalize hm2 : ({ m1 with ev := .slice av nv cv } : WV) = m2 at HMB HG2
      clear hm2
      by_cases hbad : A.er = 0
      · have HTe : Hid (Mc.step s t k = { A.st with rns := on s A.st.rns k, evs := A.st.evs ++ [⟨k, op, A.a, A.v, A.sh⟩] }) := by
          show _ = _
          rw [HSt.out, if_neg (by simpa using hbad), HAe.out]
        have hA0 : Hid (A.er = 0) := hbad
        rw [hbad]
        clear hbad
        obtain ⟨T1, hT1⟩ : ∃ T1, T1 = ({ A.st with evs := A.st.evs ++ [⟨k, op, A.a, A.v, A.sh⟩] } : St) := ⟨_, rfl⟩
        have hrn : T1.rns = A.st.rns := by rw [hT1]
        rw [← hT1] at HMB
        have HT2 : Hid (Mc.step s t k = { T1 with rns := on s T1.rns k }) := by
          show _ = _
          rw [HTe.out, hT1]
        have hTk : k < T1.rns.length := by rw [hrn]; exact HMid.out.1.k1
        have hTl : T1.rns.length ≤ 512 := by rw [hrn]; exact HMid.out.1.k2
        have hme : MR s (Mc.rn T1 k) := by
          have := HMid.out.1.me
          unfold Mc.rn
          rw [hrn]
          exact this
        have hpb := hme.pb
        have hpr2 := hme.pr
        obtain ⟨rb2, rcap2, e52, _, hf2, _, x2⟩ := HMB.out.rn1 k hTk
        have x20 : B.cell? ⟨rb2, k * 11, none⟩ = some (.int .i64 (Mc.rn T1 k).prog) := x2 0 (by omega)
        have x21 : B.cell? ⟨rb2, k * 11 + 1, none⟩ = some (.int .i64 (Mc.rn T1 k).pos) := x2 1 (by omega)
        have c52 := HMB.out.c5
        rw [e52] at c52
        have hlen := HOk.out.pl (Mc.rn T1 k).prog.toNat (by omega)
        have HOn : Hid (on s T1.rns k = if ((pg s (Mc.rn T1 k).prog).length : Int) ≤ (Mc.rn T1 k).pos + 1 then (setP T1 k ((Mc.rn T1 k).pos + 1)).set k { Mc.rn { T1 with rns := setP T1 k ((Mc.rn T1 k).pos + 1) } k with ended := true } else setP T1 k ((Mc.rn T1 k).pos + 1)) := by
          show _ = _
          split
          · rename_i h; exact on_yes s T1 k hTk h
          · rename_i h; exact on_no s T1 k h
        have HMC : Hid (WM o (B.setCell ⟨rb2, k * 11 + 1, none⟩ (.int .i64 ((Mc.rn T1 k).pos + 1))) g s (some ⟨pb, po, none⟩) pc ra rc { T1 with rns := setP T1 k ((Mc.rn T1 k).pos + 1) } m2) := HMB.out.setRn e52 (by omega) _ _ _ (rnC_setP T1 k _ hTk) (by simp [setP])
        have hT2k : k < (setP T1 k ((Mc.rn T1 k).pos + 1)).length := by simpa [setP] using hTk
        have hR2 : Mc.rn { T1 with rns := setP T1 k ((Mc.rn T1 k).pos + 1) } k = { Mc.rn T1 k with pos := (Mc.rn T1 k).pos + 1 } := by
          show (T1.rns.set k { Mc.rn T1 k with pos := (Mc.rn T1 k).pos + 1 }).getD k r0 = _
          rw [List.getD_eq_getElem?_getD, List.getElem?_set_self hTk]
          rfl
        have HX3 : Hid (∀ W, WM o W g s (some ⟨pb, po, none⟩) pc ra rc { T1 with rns := setP T1 k ((Mc.rn T1 k).pos + 1) } m2 → W.cell? ⟨g, 5, none⟩ = some (.slice (some ⟨rb2, 0, none⟩) T1.rns.length rcap2) ∧ W.cell? ⟨rb2, k * 11, none⟩ = some (.int .i64 (Mc.rn T1 k).prog) ∧ W.cell? ⟨rb2, k * 11 + 1, none⟩ = some (.int .i64 ((Mc.rn T1 k).pos + 1)) ∧ (∃ z, W.cell? ⟨rb2, k * 11 + 10, none⟩ = some z) ∧ W.frozen? ⟨rb2, k * 11 + 10, none⟩ = false ∧ WM o (W.setCell ⟨rb2, k * 11 + 10, none⟩ (.bool true)) g s (some ⟨pb, po, none⟩) pc ra rc { T1 with rns := (setP T1 k ((Mc.rn T1 k).pos + 1)).set k { Mc.rn { T1 with rns := setP T1 k ((Mc.rn T1 k).pos + 1) } k with ended := true } } m2) := fun W hW => by
          obtain ⟨f1, f2⟩ := rn_at hW hT2k e52
          rw [hR2] at f2
          refine ⟨by rw [hW.c5, e52], f2 0 (by omega), f2 1 (by omega), ⟨_, f2 10 (by omega)⟩, f1 _, ?_⟩
          exact hW.setRn (by rw [e52]; show _ = Value.slice _ (setP _ _ _).length _; rw [setP_len]) (Nat.lt_of_le_of_lt (Nat.zero_le _) hT2k) _ _ _ (rnC_done { T1 with rns := setP T1 k ((Mc.rn T1 k).pos + 1) } k true hT2k) (by simp)
        have HPr : Hid (∀ W T m', WM o W g s (some ⟨pb, po, none⟩) pc ra rc T m' → W.cell? ⟨g, 0, none⟩ = some (.slice (some ⟨pb, po, none⟩) s.progs.length pc) ∧ ∃ A2 K2, ∀ W', Below W.heap.size W W' → W'.cell? ⟨pb, po + (Mc.rn T1 k).prog.toNat, none⟩ = some (.slice A2 (pg s (Mc.rn T1 k).prog).length K2)) := fun W T m' hW => by
          refine ⟨blk_cell hW.blk rfl, ?_⟩
          rcases (hW.sm.below hW.bl).pr with h | ⟨b, off, e, hq⟩
          · exfalso; have := hpr2.2; rw [h] at this; simp at this; omega
          · injection e with e
            injection e with e1 e2
            subst e1 e2
            obtain ⟨A2, K2, h1, _⟩ := hq (Mc.rn T1 k).prog.toNat (by omega)
            exact ⟨A2, K2, fun W' hW' => keepC hW' h1⟩
        have hpL : (pg s (Mc.rn T1 k).prog).length ≤ 256 := hlen
        clear hlen x2 hme HMid hT1 hrn hR2 HTe HSt HAb HAe
        obtain ⟨pm, hpm⟩ : ∃ pm : Nat, (Mc.rn T1 k).prog = (pm : Int) := ⟨(Mc.rn T1 k).prog.toNat, by omega⟩
        generalize (pg s (Mc.rn T1 k).prog).length = pL at *
        rw [hpm] at x20 HX3 HPr hpr2
        rw [Int.toNat_natCast] at HPr
        clear hpm
        have fz := hf2 (k * 11 + 1)
        generalize (Mc.rn T1 k).pos = pp at *
        have kw : IntKind.i64.wrap (pp + 1) = pp + 1 := by rw [IntKind.wrap_i64]; omega
        have j1 : (k : Int) < (T1.rns.length : Int) := by omega
        have j2 : (pm : Int) < (s.progs.length : Int) := by omega
        have j3 : (0 : Int) ≤ (pm : Int) := by omega
        generalize hsl : s.progs.length = sl at *
        go_wp2
        clear x20 x21 c52 fz hf2 HMB
        generalize B.setCell _ _ = C at *
        obtain ⟨c5, x0, x1, _⟩ := HX3.out _ HMC.out
        obtain ⟨y0, A2, K2, hy⟩ := HPr.out _ _ _ HMC.out
        have y1 := hy _ (Below.refl _ _)
        by_cases hge : (pL : Int) ≤ pp + 1
        · rw [if_pos hge] at HOn
          go_quiet (fail)
          have HMD := TW.hide (HMC.out.below (below_drewN (Below.refl C.heap.size C) nq))
          clear HMC c5 x0 x1 y0 y1 hy
          generalize C.drewN nq = D at *
          obtain ⟨c5, _, _, ⟨z, cz⟩, fz, hz⟩ := HX3.out _ HMD.out
          have HMz := TW.hide hz
          clear hz HX3
          go_wp2
          rw [← HP.out, HT2.out, HOn.out, hA0.out]
          exact ⟨rfl, m2, HMz.out, HG2.out⟩
        · rw [if_neg hge] at HOn
          have hge' : ((pL : Int) ≤ pp + 1) = False := eq_false hge
          clear hge
          go_quiet (fail)
          have HMD := TW.hide (HMC.out.below (below_drewN (Below.refl C.heap.size C) nq))
          clear HMC c5 x0 x1 y0 y1 hy
          generalize C.drewN nq = D at *
          go_wp2
          rw [← HP.out, HT2.out, HOn.out, hA0.out]
          exact ⟨rfl, m2, HMD.out, HG2.out⟩
      · have kb : (A.er != 0) = true := by simpa using hbad
        have HTe : Hid (Mc.step s t k = { A.st with evs := A.st.evs ++ [⟨k, op, A.a, A.v, A.sh⟩] }) := by
          show _ = _
          rw [HSt.out, if_pos hbad, HAb.out hbad]
        clear hbad
        go_wp2
        rw [← HP.out, HTe.out]
        exact ⟨rfl, m2, HMB.out, HG2.out⟩
    clear hK2
    by_cases h5 : 5 ≤ op
    · by_cases h7 : op ≤ 7
      · have HC := HCh.out ⟨h5, h7⟩ W HMW.out (by have := HEW.out; rwa [if_pos ⟨h5, by omega⟩] at this)
        have HCC := TW.hide HC
        clear HC
        go_wp2_with fail
        refine HCC.out.mono ?_
        rintro e_ w_ ⟨rfl, m1, h1, h2, h3⟩
        go_wp2
        exact HR2.out w_ m1 h1 h2 h3
      · have h7' : (op ≤ 7) = False := by simp; omega
        by_cases h15 : op ≤ 15
        · have h8 : (8 : Int) ≤ op := by omega
          have HC := HSh.out ⟨h8, h15⟩ W HMW.out (by have := HEW.out; rwa [if_pos ⟨h5, by omega⟩] at this)
          have HCC := TW.hide HC
          clear HC h7
          go_wp2_with fail
          refine HCC.out.mono ?_
          rintro e_ w_ ⟨rfl, m1, h1, h2, h3⟩
          go_wp2
          exact HR2.out w_ m1 h1 h2 h3
        · have h15' : (op ≤ 15) = False := by simp; omega
          have h8 : (8 : Int) ≤ op := by omega
          have HC := HOw.out (by omega) W HMW.out (by have := HEW.out; rwa [if_neg (by omega)] at this)
          have HCC := TW.hide HC
          clear HC h7 h15
          go_wp2_with fail
          refine HCC.out.mono ?_
          rintro e_ w_ ⟨rfl, h1, h2, h3⟩
          have HR3 := @HR2.out
          rw [h3] at HR3
          go_wp2
          exact HR3 w_ m h1 h2 ⟨rfl, rfl, rfl⟩
    · have h5' : (5 ≤ op) = False := by simp; omega
      have h8' : (8 ≤ op) = False := by simp; omega
      have HC := HOw.out (by omega) W HMW.out (by have := HEW.out; rwa [if_neg (by omega)] at this)
      have HCC := TW.hide HC
      clear HC h5
      go_wp2_with fail
      refine HCC.out.mono ?_
      rintro e_ w_ ⟨rfl, h1, h2, h3⟩
      have HR3 := @HR2.out
      rw [h3] at HR3
      go_wp2
      exact HR3 w_ m h1 h2 ⟨rfl, rfl, rfl⟩
  clear hK1
  by_cases h5 : 5 ≤ op
  · by_cases h15 : op ≤ 15
    · have HMs : Hid (WM o (X.setCell ⟨ge, 2, none⟩ (.int .i64 a0)) g s (some ⟨pb, po, none⟩) pc ra rc t m) := HM1.out.setE HE1.out HgV.out HlV.out 2 _
      have HEs : Hid (EvB (X.setCell ⟨ge, 2, none⟩ (.int .i64 a0)) ge ⟨k, op, if 5 ≤ op ∧ op ≤ 15 then a0 else 0, 0, false⟩) := by
        show EvB _ _ _
        rw [if_pos ⟨h5, h15⟩]
        exact HE1.out.setA a0
      have HIs : Hid ((X.setCell ⟨ge, 2, none⟩ (.int .i64 a0)).heap[gi]? = some (.cells #[.int .i64 op, .int .i64 a0, .int .i64 a1, .int .i64 a2] 53 (0, 0))) := blk_setN HI1.out HE1.out (by decide)
      have fz := HE1.out.froz 2
      have cz := HE1.out.cells.2.2.1
      go_wp2
      exact HR1.out _ HMs.out HEs.out HIs.out
    · have h15' : (op ≤ 15) = False := by simp; omega
      have HEs : Hid (EvB X ge ⟨k, op, if 5 ≤ op ∧ op ≤ 15 then a0 else 0, 0, false⟩) := by
        show EvB _ _ _
        rw [if_neg (by omega)]
        exact HE1.out
      clear h15
      go_wp2
      exact HR1.out _ HM1.out HEs.out HI1.out
  · have h5' : (5 ≤ op) = False := by simp; omega
    have HEs : Hid (EvB X ge ⟨k, op, if 5 ≤ op ∧ op ≤ 15 then a0 else 0, 0, false⟩) := by
      show EvB _ _ _
      rw [if_neg (by omega)]
      exact HE1.out
    clear h5
    go_wp2
    exact HR1.out _ HM1.out HEs.out HI1.out
end LW
end Go.Proofs.Ytghpfhoajcgghaa
