/-
  What shared of the document's machine does: a new runner.
-/
import Derived.Test.YtghpfhoajcgghaaSysU
namespace Go.Proofs.Ytghpfhoajcgghaa
open Go.RowKit
set_option linter.unusedVariables false
set_option linter.unusedSimpArgs false
namespace LW
open Mc
theorem exec_load_mid {P : Program} {o : Oper} {a : Act} {w : World} (ty : TypeId) (x : Operand) (ho : o.op = .load ty x) (b off : Nat) (hx : a.eval x = .pointer (some ⟨b, off, none⟩)) (cs : List Value) (d : TypeDesc)
    (hc : w.rangeAt b off cs) (hu : P.underlying ty = some d) (hd : d.isRow = true) (hi : (P.info? ty).map (·.size) = some cs.length) :
    (execOp a.eval o).run P w = .ok (.value (.agg cs.toArray)) w := by
  unfold execOp
  simp only [ho, hx, Instr.loadAt, Instr.sureAddr, Sem.run_bind, Sem.run_pure, Result.andThen_ok, run_loadVar_mid w b off ty cs d hc hu hd hi]
/-- Append to a row of one's own that is not empty: what stood in the old block still stands there. -/
theorem wp_append_r {P : Program} {o : Oper} {a : Act} {K : Act → World → Prop} {Q : Exit → Act → World → Prop} (w : World) (s x : Operand) (t : TypeId)
    (ho : o.op = .call { callee := .builtin .append, args := #[s, x], argTypes := #[t, t] })
    (base : Nat) (e : TypeId) (i : TypeInfo) (z : Value) (size bytes : Nat) (ht : P.underlying t = some (.slice e)) (hi : P.info? e = some i) (hz : i.zero = some z)
    (hsize : i.size = size) (hby : i.bytes = bytes) (hzs : z.cells.size = size) (hsz : 0 < size)
    (b n cap : Nat) (xs : List Value) (hs : a.eval s = .slice (some ⟨b, 0, none⟩) n cap) (hown : w.ownsRow base e size (.slice (some ⟨b, 0, none⟩) n cap) n xs)
    (ad : Addr) (m c : Nat) (news : List Value) (hx : a.eval x = .slice (some ad) m c) (hl : news.length = m * size) (hnews : ∀ j u, news[j]? = some u → w.cell? (ad.add j) = some u) (h1 : ∀ u ∈ news, u.oneCell' = true)
    (h63 : n + m ≤ maxLen) (hbytes : (n + m) * bytes ≤ 140737488355328) (hbase : base ≤ w.heap.size)
    (h : ∀ v' w', w'.ownsRow base e size v' (n + m) (xs ++ news) → w.grownBy w' (some b) → (∀ i u, xs[i]? = some u → w'.cell? ⟨b, i, none⟩ = some u) → K (a.put o.dst v') w') : o.wp P a w K Q := by
  obtain ⟨cur, hgB, hh, hn, hm, hsz', htk⟩ : ∃ cur, base ≤ b ∧ w.heap[b]? = some (.cells cur e (0, 0)) ∧ n ≤ cap ∧ cap ≤ maxLen ∧ cur.size = cap * size ∧ cur.toList.take (n * size) = xs := by
    rcases hown.2 with ⟨e1, _⟩ | ⟨g, cap', cur, e1, h2, h3, h4, h5, h6, h7⟩
    · cases e1
    · injection e1 with e1 e2 e3
      injection e1 with e1
      injection e1 with e1
      subst e1 e3
      exact ⟨cur, h2, h3, h4, h5, h6, h7⟩
  have hold : ∀ i u, xs[i]? = some u → w.cell? ⟨b, i, none⟩ = some u := fun i u hu => by
    rw [← htk, List.getElem?_take] at hu
    split at hu
    · exact blk_cell hh (by simpa using hu)
    · cases hu
  unfold Oper.wp execOp
  by_cases hroom : n + m ≤ cap
  · obtain ⟨v', w', hr, h2, h3, h4, h5⟩ := run_append_own_at (P := P) w base t o.type e i z size bytes ht hi hz hsize hby hzs hsz _ n xs hown ad m c news hl hnews h1 h63 hbytes hbase
    have hms : (n + m) * size ≤ cap * size := Nat.mul_le_mul_right _ hroom
    rw [Nat.add_mul] at hms
    have hr2 := run_append_room_cells (P := P) w t o.type e i ht hi b 0 n cap ad m c news (by rw [hsize]; exact hl) hnews h1 hroom
      (fun j hj => by
        rw [hsize, blk_cell hh (show cur[0 + n * size + j]? = some cur[0 + n * size + j] from Array.getElem?_eq_getElem (by omega))]
        rfl)
      (fun j hj => by simp [World.frozen?, hh])
    have hv : v' = .slice (some ⟨b, 0, none⟩) (n + m) cap := by
      have := hr.symm.trans hr2
      injection this
    simp only [ho, resolve, invoke, builtin, Sem.run_bind, Sem.run_pure, Result.andThen_ok, List.map_toArray, List.map_cons, List.map_nil, hs, hx, hr]
    refine h v' w' h2 h3 (fun i u hu => ?_)
    rw [hv] at h2
    rcases h2.2 with ⟨e1, _⟩ | ⟨g, cap', cur', e1, _, g3, _, _, _, g7⟩
    · cases e1
    · injection e1 with e1 e2 e3
      injection e1 with e1
      injection e1 with e1
      subst e1
      have hlt : i < xs.length := (List.getElem?_eq_some_iff.1 hu).1
      have h8 : (xs ++ news)[i]? = some u := by rw [List.getElem?_append_left hlt]; exact hu
      rw [← g7, List.getElem?_take] at h8
      split at h8
      · exact blk_cell g3 (by simpa using h8)
      · cases h8
  · obtain ⟨v', w', hr, h2, h3⟩ := run_append_arg_grows (P := P) w t o.type e i z size bytes ht hi hz hsize hby hzs hsz ⟨b, 0, none⟩ n cap xs hown.1 (fun j u hj => by rw [Addr.add_mid, Nat.zero_add]; exact hold j u hj) ad m c news hl hnews (by omega) h63 hbytes
    simp only [ho, resolve, invoke, builtin, Sem.run_bind, Sem.run_pure, Result.andThen_ok, List.map_toArray, List.map_cons, List.map_nil, hs, hx, hr]
    refine h v' w' ⟨h2.1, ?_⟩ ⟨h3.os, h3.tape, h3.output, h3.size, fun j hj _ => h3.block j hj (by simp)⟩ (fun i u hu => ?_)
    · rcases h2.2 with h4 | ⟨g, cap', cur', e1, g2, g3⟩
      · exact .inl h4
      · exact .inr ⟨g, cap', cur', e1, Nat.le_trans hbase g2, g3⟩
    · rw [cell_of (h3.block b (blk_lt hh) (by simp))]
      exact hold i u hu
theorem own_rdA {w : World} {B n n' s b cap : Nat} {t : TypeId} {v : Value} {xs : List Value} (h : w.ownsRow B t s v n xs) (e : v = .slice (some ⟨b, 0, none⟩) n' cap) (hn : 0 < n) : ∀ i u, xs[i]? = some u → w.cell? ⟨b, i, none⟩ = some u := by
  obtain ⟨b', cap', e', _, _, _, hr⟩ := own_rd h hn
  rw [e] at e'
  injection e' with e1
  injection e1 with e1
  injection e1 with e1
  subst e1
  exact hr
theorem runinfo : (Try.prog.info? 86).map (fun i => (i.zero, i.size, i.bytes)) = some (some (.agg #[.int .i64 0, .int .i64 0, .int .i64 0, .int .i64 0, .int .i64 0, .int .i64 0, .int .i64 0, .int .i64 0, .int .i64 0, .int .i64 0, .bool false]), 11, 88) := by kernel_rfl
set_option maxRecDepth 100000 in
set_option maxHeartbeats 4000000 in
theorem rstart {o : World} {g : Nat} {s : Syst} {pa : Option Addr} {pc : Nat} {ra : Option Addr} {rc : Nat} {t : St} {m : WV} (k c r : Nat) (a2 : Int) (ge : Nat) (w : World) (h : WM o w g s pa pc ra rc t m) (hk : k < t.rns.length) (hc : c < s.progs.length) (h8 : (Mc.rn t k).regs.length = 8) (hE : EvB w ge ⟨k, 14, c, 0, false⟩) (hB : o.heap.size ≤ ge) (hn : m.ev.ownBlock ≠ some ge) :
    Calls Try.prog 39 #[.pointer (some ⟨g, 0, none⟩), .int .i64 k, .agg #[.int .i64 14, .int .i64 (c : Int), .int .i64 (r : Int), .int .i64 a2], .pointer (some ⟨ge, 0, none⟩)] w (ChP o g s pa pc ra rc m ge k 14 (if 512 ≤ t.rns.length then ⟨c, 0, false, 135, t⟩ else ⟨c, t.rns.length, false, 0, { t with rns := t.rns ++ [⟨c, 0, (Mc.rn t k).regs, (s.progs.getD c []).isEmpty⟩] }⟩)) := by
  have HM := TW.hide h
  have HE := TW.hide hE
  have HB := TW.hide hB
  have HN := TW.hide hn
  clear h hE hB hn
  generalize hP : ChP o g s pa pc ra rc m ge k _ _ = POST
  have HP := TW.hide hP
  clear hP
  have hA0 : Below w.heap.size w (w.alloc (.cells #[.int .i64 14, .int .i64 (c : Int), .int .i64 (r : Int), .int .i64 a2] 53)) := (Below.refl _ _).alloc (Nat.le_refl _) _
  have NI0 : (w.alloc (.cells #[.int .i64 14, .int .i64 (c : Int), .int .i64 (r : Int), .int .i64 a2] 53)).heap[w.heap.size]? = some (.cells #[.int .i64 14, .int .i64 (c : Int), .int .i64 (r : Int), .int .i64 a2] 53 (0, 0)) := heap_alloc_new w _
  go_enter Try.func39, Try.ntmps39
  refine wp_seq_k fun K hK => ?_
  have HK := TW.hide hK
  clear hK
  go_wp2
  refine HK.out _ _ ?_
  clear HK K
  have HMV := TW.hide (HM.out.below hA0)
  have HEV := TW.hide (HE.out.below hA0)
  have HI := TW.hide NI0
  clear hA0 NI0 HM HE
  generalize (w.alloc (.cells #[.int .i64 14, .int .i64 (c : Int), .int .i64 (r : Int), .int .i64 a2] 53)) = V at *
  generalize w.heap.size = gi at *
  obtain ⟨z0, z1, z2, z3⟩ := cellsY4 HI.out
  obtain ⟨rb, rcap, e5, hrbB, _, _, x1⟩ := HMV.out.rn1 k hk
  obtain ⟨pb, po, rfl, A, K0, y1⟩ : ∃ pb po, pa = some ⟨pb, po, none⟩ ∧ ∃ A K0, o.cell? ⟨pb, po + c, none⟩ = some (.slice A (s.progs.getD c []).length K0) := by
    rcases HMV.out.sm.pr with h | ⟨b, off, e, hq⟩
    · rw [h] at hc; simp at hc
    · obtain ⟨A, K, h1, _⟩ := hq c hc
      exact ⟨b, off, e, A, K, h1⟩
  have c5 := HMV.out.c5
  rw [e5] at c5
  have k1 : (k : Int) < (t.rns.length : Int) := by omega
  have k0 : (0 : Int) ≤ (k : Int) := by omega
  have q1 : (c : Int) < (s.progs.length : Int) := by omega
  have q0 : (0 : Int) ≤ (c : Int) := by omega
  generalize hnn : t.rns.length = n at e5 c5 k1 HP
  by_cases hN : 512 ≤ n
  · rw [if_pos hN] at HP
    have hN' : (512 : Int) ≤ (n : Int) := by omega
    go_wp2
    rw [← HP.out]
    exact ⟨rfl, m, HMV.out, HEV.out, rfl, rfl, rfl⟩
  rw [if_neg hN] at HP
  have hN' : ((512 : Int) ≤ (n : Int)) = False := by simp; omega
  have fz := HEV.out.froz 3
  have cz := HEV.out.cells.2.2.2.1
  have HMB : Hid (WM o (V.setCell ⟨ge, 3, none⟩ (.int .i64 (n : Int))) g s (some ⟨pb, po, none⟩) pc ra rc t m) := HMV.out.setE HEV.out HB.out HN.out 3 _
  have HEB : Hid (EvB (V.setCell ⟨ge, 3, none⟩ (.int .i64 (n : Int))) ge ⟨k, 14, c, n, false⟩) := HEV.out.setV n
  have HIB : Hid ((V.setCell ⟨ge, 3, none⟩ (.int .i64 (n : Int))).heap[gi]? = some (.cells #[.int .i64 14, .int .i64 (c : Int), .int .i64 (r : Int), .int .i64 a2] 53 (0, 0))) := blk_setN HI.out HEV.out (by decide)
  go_wp2
  have HNw : Hid (rnC [⟨c, 0, (Mc.rn t k).regs, (s.progs.getD c []).isEmpty⟩] = [.int .i64 (c : Int), .int .i64 0, .int .i64 ((Mc.rn t k).regs.getD 0 0), .int .i64 ((Mc.rn t k).regs.getD 1 0), .int .i64 ((Mc.rn t k).regs.getD 2 0), .int .i64 ((Mc.rn t k).regs.getD 3 0), .int .i64 ((Mc.rn t k).regs.getD 4 0), .int .i64 ((Mc.rn t k).regs.getD 5 0), .int .i64 ((Mc.rn t k).regs.getD 6 0), .int .i64 ((Mc.rn t k).regs.getD 7 0), .bool (s.progs.getD c []).isEmpty]) := rfl
  have HRL : Hid (∀ j v, ([Value.int .i64 ((Mc.rn t k).regs.getD 0 0), Value.int .i64 ((Mc.rn t k).regs.getD 1 0), Value.int .i64 ((Mc.rn t k).regs.getD 2 0), Value.int .i64 ((Mc.rn t k).regs.getD 3 0), Value.int .i64 ((Mc.rn t k).regs.getD 4 0), Value.int .i64 ((Mc.rn t k).regs.getD 5 0), Value.int .i64 ((Mc.rn t k).regs.getD 6 0), Value.int .i64 ((Mc.rn t k).regs.getD 7 0)] : List Value)[j]? = some v → (rnC t.rns)[k * 11 + 2 + j]? = some v) := fun j v hv => by
    have h3 := fun j hj => flC_get 11 rnV r0 t.rns k j hk hj
    match j, hv with
    | 0, hv => injection hv with hv; subst hv; exact h3 2 (by omega)
    | 1, hv => injection hv with hv; subst hv; exact h3 3 (by omega)
    | 2, hv => injection hv with hv; subst hv; exact h3 4 (by omega)
    | 3, hv => injection hv with hv; subst hv; exact h3 5 (by omega)
    | 4, hv => injection hv with hv; subst hv; exact h3 6 (by omega)
    | 5, hv => injection hv with hv; subst hv; exact h3 7 (by omega)
    | 6, hv => injection hv with hv; subst hv; exact h3 8 (by omega)
    | 7, hv => injection hv with hv; subst hv; exact h3 9 (by omega)
  have HRn := TW.hide hnn
  have HPo : Hid (pb < o.heap.size) := lt_of_cell y1
  have heb : (((s.progs.getD c []).length : Int) == 0) = (s.progs.getD c []).isEmpty := by
    cases s.progs.getD c [] with
    | nil => rfl
    | cons a l => simp; omega
  have HPl : Hid (∀ W, WM o W g s (some ⟨pb, po, none⟩) pc ra rc t m → W.cell? ⟨g, 0, none⟩ = some (.slice (some ⟨pb, po, none⟩) s.progs.length pc)) := fun W hW => blk_cell hW.blk rfl
  have HPr : Hid (∀ W, WM o W g s (some ⟨pb, po, none⟩) pc ra rc t m → W.cell? ⟨pb, po + c, none⟩ = some (.slice A (s.progs.getD c []).length K0)) := fun W hW => keepC hW.bl y1
  generalize (Mc.rn t k).regs.getD 0 0 = u0 at HNw HRL
  generalize (Mc.rn t k).regs.getD 1 0 = u1 at HNw HRL
  generalize (Mc.rn t k).regs.getD 2 0 = u2 at HNw HRL
  generalize (Mc.rn t k).regs.getD 3 0 = u3 at HNw HRL
  generalize (Mc.rn t k).regs.getD 4 0 = u4 at HNw HRL
  generalize (Mc.rn t k).regs.getD 5 0 = u5 at HNw HRL
  generalize (Mc.rn t k).regs.getD 6 0 = u6 at HNw HRL
  generalize (Mc.rn t k).regs.getD 7 0 = u7 at HNw HRL
  generalize (s.progs.getD c []).isEmpty = eb at *
  generalize (s.progs.getD c []).length = pl at *
  generalize s.progs.length = pn at *
  clear z0 z1 z2 z3 c5 x1 fz cz HMV HEV HI y1
  generalize V.setCell _ _ = B at *
  have HI := HIB
  clear HIB
  refine wp_region_noPanic ?_
  refine RG.wp_region_L (fun Z => Z.cell? ⟨g, 5, none⟩ = some (.slice (some ⟨rb, 0, none⟩) n rcap) ∧ Z.cell? ⟨gi, 1, none⟩ = some (.int .i64 (c : Int)) ∧ Z.rangeAt rb (k * 11 + 2) [.int .i64 u0, .int .i64 u1, .int .i64 u2, .int .i64 u3, .int .i64 u4, .int .i64 u5, .int .i64 u6, .int .i64 u7] ∧ Z.cell? ⟨g, 0, none⟩ = some (.slice (some ⟨pb, po, none⟩) pn pc) ∧ Z.cell? ⟨pb, po + c, none⟩ = some (.slice A pl K0)) (fun Z => True) [31] (by kernel_rfl) ?_
  refine RG.wpL_any fun Ya hY => ?_
  have HBa : Hid (Below B.heap.size B Ya) := by rw [hY]; exact below_drewN (Below.refl _ _) 1
  clear hY
  have HMa := TW.hide (HMB.out.below HBa.out)
  have HEa := TW.hide (HEB.out.below HBa.out)
  have HIa := TW.hide (blk_keep HI.out HBa.out)
  have HSa : Hid (Ya.cell? ⟨g, 5, none⟩ = some (.slice (some ⟨rb, 0, none⟩) n rcap) ∧ Ya.cell? ⟨gi, 1, none⟩ = some (.int .i64 (c : Int)) ∧ Ya.rangeAt rb (k * 11 + 2) [.int .i64 u0, .int .i64 u1, .int .i64 u2, .int .i64 u3, .int .i64 u4, .int .i64 u5, .int .i64 u6, .int .i64 u7] ∧ Ya.cell? ⟨g, 0, none⟩ = some (.slice (some ⟨pb, po, none⟩) pn pc) ∧ Ya.cell? ⟨pb, po + c, none⟩ = some (.slice A pl K0)) := ⟨by rw [HMa.out.c5, e5], (cellsY4 HIa.out).2.1, fun j v hv => (own_rdA HMa.out.rns e5 (by omega) _ _ (HRL.out j v hv)), HPl.out _ HMa.out, HPr.out _ HMa.out⟩
  clear HMB HEB HI HBa
  refine RG.wpL_take (fuel := 5) (a' := ?Aa) [0, 1, 2, 3, 4, 5, 6, 7, 8, 9, 10, 11, 12, 13, 14, 15, 16, 17, 18, 19, 20, 21, 22, 23, 24, 25, 26] (by kernel_rfl) (by kernel_rfl) (fun _ _ _ _ _ h => h) trivial (fun _ => HSa.out) ?ra ?_
  case ra =>
    refine RG.RunsIf.weak (v := ?_) (by rfl) (by rfl) (fun Z hT => ?_) ?_
    rotate_left
    · go_simp
      rfl
    simp only [Act.put, List.setIfInBounds_toArray, List.set_cons_zero, List.set_cons_succ, List.getElem_toArray, List.getElem_cons_zero, List.getElem_cons_succ]
    refine RG.RunsIf.weak (v := ?_) (by rfl) (by rfl) (fun Z hT => ?_) ?_
    rotate_left
    · go_simp
      rfl
    simp only [Act.put, List.setIfInBounds_toArray, List.set_cons_zero, List.set_cons_succ, List.getElem_toArray, List.getElem_cons_zero, List.getElem_cons_succ]
    refine RG.RunsIf.weak (v := ?_) (by rfl) (by rfl) (fun Z hT => ?_) ?_
    rotate_left
    · go_simp
      rfl
    simp only [Act.put, List.setIfInBounds_toArray, List.set_cons_zero, List.set_cons_succ, List.getElem_toArray, List.getElem_cons_zero, List.getElem_cons_succ]
    refine RG.RunsIf.weak (v := ?_) (by rfl) (by rfl) (fun Z hT => ?_) ?_
    rotate_left
    · go_simp
      rfl
    simp only [Act.put, List.setIfInBounds_toArray, List.set_cons_zero, List.set_cons_succ, List.getElem_toArray, List.getElem_cons_zero, List.getElem_cons_succ]
    refine RG.RunsIf.strong (v := .slice (some ⟨rb, 0, none⟩) n rcap) (by rfl) (by kernel_rfl) (by rfl) (fun Z hT hS => ?_) ?_
    · obtain ⟨g1, g2, g3, g4, g5⟩ := hS
      go_simp
    simp only [Act.put, List.setIfInBounds_toArray, List.set_cons_zero, List.set_cons_succ, List.getElem_toArray, List.getElem_cons_zero, List.getElem_cons_succ]
    refine RG.RunsIf.weak (v := ?_) (by rfl) (by rfl) (fun Z hT => ?_) ?_
    rotate_left
    · go_simp
      rfl
    simp only [Act.put, List.setIfInBounds_toArray, List.set_cons_zero, List.set_cons_succ, List.getElem_toArray, List.getElem_cons_zero, List.getElem_cons_succ]
    refine RG.RunsIf.strong (v := .int .i64 (c : Int)) (by rfl) (by kernel_rfl) (by rfl) (fun Z hT hS => ?_) ?_
    · obtain ⟨g1, g2, g3, g4, g5⟩ := hS
      go_simp
    simp only [Act.put, List.setIfInBounds_toArray, List.set_cons_zero, List.set_cons_succ, List.getElem_toArray, List.getElem_cons_zero, List.getElem_cons_succ]
    refine RG.RunsIf.weak (v := ?_) (by rfl) (by rfl) (fun Z hT => ?_) ?_
    rotate_left
    · go_simp
      rfl
    simp only [Act.put, List.setIfInBounds_toArray, List.set_cons_zero, List.set_cons_succ, List.getElem_toArray, List.getElem_cons_zero, List.getElem_cons_succ]
    refine RG.RunsIf.weak (v := ?_) (by rfl) (by rfl) (fun Z hT => ?_) ?_
    rotate_left
    · go_simp
      rfl
    simp only [Act.put, List.setIfInBounds_toArray, List.set_cons_zero, List.set_cons_succ, List.getElem_toArray, List.getElem_cons_zero, List.getElem_cons_succ]
    refine RG.RunsIf.weak (v := ?_) (by rfl) (by rfl) (fun Z hT => ?_) ?_
    rotate_left
    · go_simp
      rfl
    simp only [Act.put, List.setIfInBounds_toArray, List.set_cons_zero, List.set_cons_succ, List.getElem_toArray, List.getElem_cons_zero, List.getElem_cons_succ]
    refine RG.RunsIf.strong (v := .slice (some ⟨rb, 0, none⟩) n rcap) (by rfl) (by kernel_rfl) (by rfl) (fun Z hT hS => ?_) ?_
    · obtain ⟨g1, g2, g3, g4, g5⟩ := hS
      go_simp
    simp only [Act.put, List.setIfInBounds_toArray, List.set_cons_zero, List.set_cons_succ, List.getElem_toArray, List.getElem_cons_zero, List.getElem_cons_succ]
    refine RG.RunsIf.weak (v := ?_) (by rfl) (by rfl) (fun Z hT => ?_) ?_
    rotate_left
    · go_simp
      rfl
    simp only [Act.put, List.setIfInBounds_toArray, List.set_cons_zero, List.set_cons_succ, List.getElem_toArray, List.getElem_cons_zero, List.getElem_cons_succ]
    refine RG.RunsIf.weak (v := ?_) (by rfl) (by rfl) (fun Z hT => ?_) ?_
    rotate_left
    · go_simp
      rfl
    simp only [Act.put, List.setIfInBounds_toArray, List.set_cons_zero, List.set_cons_succ, List.getElem_toArray, List.getElem_cons_zero, List.getElem_cons_succ]
    refine RG.RunsIf.weak (v := ?_) (by rfl) (by rfl) (fun Z hT => ?_) ?_
    rotate_left
    · go_simp
      rfl
    simp only [Act.put, List.setIfInBounds_toArray, List.set_cons_zero, List.set_cons_succ, List.getElem_toArray, List.getElem_cons_zero, List.getElem_cons_succ]
    refine RG.RunsIf.strong (v := .agg #[.int .i64 u0, .int .i64 u1, .int .i64 u2, .int .i64 u3, .int .i64 u4, .int .i64 u5, .int .i64 u6, .int .i64 u7]) (by rfl) (by kernel_rfl) (by rfl) (fun Z hT hS => exec_load_mid 84 _ (by rfl) rb (k * 11 + 2) (by rfl) [.int .i64 u0, .int .i64 u1, .int .i64 u2, .int .i64 u3, .int .i64 u4, .int .i64 u5, .int .i64 u6, .int .i64 u7] _ hS.2.2.1 Try.underlying84 rfl (by kernel_rfl)) ?_
    simp only [Act.put, List.setIfInBounds_toArray, List.set_cons_zero, List.set_cons_succ, List.getElem_toArray, List.getElem_cons_zero, List.getElem_cons_succ]
    refine RG.RunsIf.weak (v := ?_) (by rfl) (by rfl) (fun Z hT => ?_) ?_
    rotate_left
    · go_simp
      rfl
    simp only [Act.put, List.setIfInBounds_toArray, List.set_cons_zero, List.set_cons_succ, List.getElem_toArray, List.getElem_cons_zero, List.getElem_cons_succ]
    refine RG.RunsIf.weak (v := ?_) (by rfl) (by rfl) (fun Z hT => ?_) ?_
    rotate_left
    · go_simp
      rfl
    simp only [Act.put, List.setIfInBounds_toArray, List.set_cons_zero, List.set_cons_succ, List.getElem_toArray, List.getElem_cons_zero, List.getElem_cons_succ]
    refine RG.RunsIf.weak (v := ?_) (by rfl) (by rfl) (fun Z hT => ?_) ?_
    rotate_left
    · go_simp
      rfl
    simp only [Act.put, List.setIfInBounds_toArray, List.set_cons_zero, List.set_cons_succ, List.getElem_toArray, List.getElem_cons_zero, List.getElem_cons_succ]
    refine RG.RunsIf.weak (v := ?_) (by rfl) (by rfl) (fun Z hT => ?_) ?_
    rotate_left
    · go_simp
      rfl
    simp only [Act.put, List.setIfInBounds_toArray, List.set_cons_zero, List.set_cons_succ, List.getElem_toArray, List.getElem_cons_zero, List.getElem_cons_succ]
    refine RG.RunsIf.strong (v := .slice (some ⟨pb, po, none⟩) pn pc) (by rfl) (by kernel_rfl) (by rfl) (fun Z hT hS => ?_) ?_
    · obtain ⟨g1, g2, g3, g4, g5⟩ := hS
      go_simp
    simp only [Act.put, List.setIfInBounds_toArray, List.set_cons_zero, List.set_cons_succ, List.getElem_toArray, List.getElem_cons_zero, List.getElem_cons_succ]
    refine RG.RunsIf.weak (v := ?_) (by rfl) (by rfl) (fun Z hT => ?_) ?_
    rotate_left
    · go_simp
      rfl
    simp only [Act.put, List.setIfInBounds_toArray, List.set_cons_zero, List.set_cons_succ, List.getElem_toArray, List.getElem_cons_zero, List.getElem_cons_succ]
    refine RG.RunsIf.strong (v := .int .i64 (c : Int)) (by rfl) (by kernel_rfl) (by rfl) (fun Z hT hS => ?_) ?_
    · obtain ⟨g1, g2, g3, g4, g5⟩ := hS
      go_simp
    simp only [Act.put, List.setIfInBounds_toArray, List.set_cons_zero, List.set_cons_succ, List.getElem_toArray, List.getElem_cons_zero, List.getElem_cons_succ]
    refine RG.RunsIf.weak (v := ?_) (by rfl) (by rfl) (fun Z hT => ?_) ?_
    rotate_left
    · go_simp
      rfl
    simp only [Act.put, List.setIfInBounds_toArray, List.set_cons_zero, List.set_cons_succ, List.getElem_toArray, List.getElem_cons_zero, List.getElem_cons_succ]
    refine RG.RunsIf.strong (v := .slice A pl K0) (by rfl) (by kernel_rfl) (by rfl) (fun Z hT hS => ?_) ?_
    · obtain ⟨g1, g2, g3, g4, g5⟩ := hS
      go_simp
    simp only [Act.put, List.setIfInBounds_toArray, List.set_cons_zero, List.set_cons_succ, List.getElem_toArray, List.getElem_cons_zero, List.getElem_cons_succ]
    refine RG.RunsIf.weak (v := ?_) (by rfl) (by rfl) (fun Z hT => ?_) ?_
    rotate_left
    · go_simp
      rfl
    simp only [Act.put, List.setIfInBounds_toArray, List.set_cons_zero, List.set_cons_succ, List.getElem_toArray, List.getElem_cons_zero, List.getElem_cons_succ]
    refine RG.RunsIf.weak (v := .bool eb) (by rfl) (by rfl) (fun Z hT => ?_) ?_
    · go_simp
    simp only [Act.put, List.setIfInBounds_toArray, List.set_cons_zero, List.set_cons_succ, List.getElem_toArray, List.getElem_cons_zero, List.getElem_cons_succ]
    refine RG.RunsIf.weak (v := ?_) (by rfl) (by rfl) (fun Z hT => ?_) ?_
    rotate_left
    · go_simp
      rfl
    simp only [Act.put, List.setIfInBounds_toArray, List.set_cons_zero, List.set_cons_succ, List.getElem_toArray, List.getElem_cons_zero, List.getElem_cons_succ]
    exact RG.RunsIf.nil
  refine RG.wpL_step (i := 27) (by kernel_rfl) (by rfl) (by rfl) (fun KX hK => ?_)
  have HK := TW.hide hK
  clear hK
  go_simp
  have hAa : Below Ya.heap.size Ya (Ya.alloc (.cells #[.int .i64 (c : Int), .int .i64 0, .int .i64 u0, .int .i64 u1, .int .i64 u2, .int .i64 u3, .int .i64 u4, .int .i64 u5, .int .i64 u6, .int .i64 u7, .bool eb] 86)) := (Below.refl _ _).alloc (Nat.le_refl _) _
  have HSb : Hid ((Ya.alloc (.cells #[.int .i64 (c : Int), .int .i64 0, .int .i64 u0, .int .i64 u1, .int .i64 u2, .int .i64 u3, .int .i64 u4, .int .i64 u5, .int .i64 u6, .int .i64 u7, .bool eb] 86)).cell? ⟨g, 5, none⟩ = some (.slice (some ⟨rb, 0, none⟩) n rcap) ∧ (Ya.alloc (.cells #[.int .i64 (c : Int), .int .i64 0, .int .i64 u0, .int .i64 u1, .int .i64 u2, .int .i64 u3, .int .i64 u4, .int .i64 u5, .int .i64 u6, .int .i64 u7, .bool eb] 86)).cell? ⟨gi, 1, none⟩ = some (.int .i64 (c : Int)) ∧ (Ya.alloc (.cells #[.int .i64 (c : Int), .int .i64 0, .int .i64 u0, .int .i64 u1, .int .i64 u2, .int .i64 u3, .int .i64 u4, .int .i64 u5, .int .i64 u6, .int .i64 u7, .bool eb] 86)).rangeAt rb (k * 11 + 2) [.int .i64 u0, .int .i64 u1, .int .i64 u2, .int .i64 u3, .int .i64 u4, .int .i64 u5, .int .i64 u6, .int .i64 u7] ∧ (Ya.alloc (.cells #[.int .i64 (c : Int), .int .i64 0, .int .i64 u0, .int .i64 u1, .int .i64 u2, .int .i64 u3, .int .i64 u4, .int .i64 u5, .int .i64 u6, .int .i64 u7, .bool eb] 86)).cell? ⟨g, 0, none⟩ = some (.slice (some ⟨pb, po, none⟩) pn pc) ∧ (Ya.alloc (.cells #[.int .i64 (c : Int), .int .i64 0, .int .i64 u0, .int .i64 u1, .int .i64 u2, .int .i64 u3, .int .i64 u4, .int .i64 u5, .int .i64 u6, .int .i64 u7, .bool eb] 86)).cell? ⟨pb, po + c, none⟩ = some (.slice A pl K0)) := ⟨keepC hAa HSa.out.1, keepC hAa HSa.out.2.1, fun j v hv => keepC hAa (HSa.out.2.2.1 j v hv), keepC hAa HSa.out.2.2.2.1, keepC hAa HSa.out.2.2.2.2⟩
  refine HK.out _ _ trivial (fun _ => HSb.out) ?_
  clear HK KX
  have HMb := TW.hide (HMa.out.below hAa)
  have HEb := TW.hide (HEa.out.below hAa)
  have HIb := TW.hide (blk_keep HIa.out hAa)
  have HQb : Hid (∀ j u, ([.int .i64 (c : Int), .int .i64 0, .int .i64 u0, .int .i64 u1, .int .i64 u2, .int .i64 u3, .int .i64 u4, .int .i64 u5, .int .i64 u6, .int .i64 u7, .bool eb] : List Value)[j]? = some u → (Ya.alloc (.cells #[.int .i64 (c : Int), .int .i64 0, .int .i64 u0, .int .i64 u1, .int .i64 u2, .int .i64 u3, .int .i64 u4, .int .i64 u5, .int .i64 u6, .int .i64 u7, .bool eb] 86)).cell? ((⟨Ya.heap.size, 0, none⟩ : Addr).add j) = some u) := fun j u hj => by
    rw [Addr.add_mid, Nat.zero_add]
    exact blk_cell (heap_alloc_new Ya _) (by simpa using hj)
  clear HMa HEa HIa HSa hAa
  generalize Ya.alloc _ = Yb at *
  generalize Ya.heap.size = gq at *
  refine RG.wpL_step (i := 28) (by kernel_rfl) (by rfl) (by rfl) (fun KX hK => ?_)
  have HK := TW.hide hK
  clear hK
  obtain ⟨ir, hir, hz0, hz1, hz2⟩ := info_parts' runinfo
  have hrow := HMb.out.rns
  rw [e5, HRn.out] at hrow
  refine wp_append_r _ _ _ 54 (by rfl) o.heap.size 86 ir _ 11 88 Try.underlying54 hir hz0 hz1 hz2 rfl (by decide) rb n rcap (rnC t.rns) (by rfl) hrow ⟨gq, 0, none⟩ 1 1 [.int .i64 (c : Int), .int .i64 0, .int .i64 u0, .int .i64 u1, .int .i64 u2, .int .i64 u3, .int .i64 u4, .int .i64 u5, .int .i64 u6, .int .i64 u7, .bool eb] (by rfl) rfl HQb.out (by simp [Value.oneCell']) (by unfold maxLen; omega) (by omega) HMb.out.bl.size ?_
  intro v' W5 hown5 hgr5 hold5
  obtain ⟨av, nv, cv, rfl⟩ : ∃ a n c, v' = .slice a n c := by
    rcases hown5.2 with ⟨e, _⟩ | ⟨_, _, _, e, _⟩
    · exact ⟨_, _, _, e⟩
    · exact ⟨_, _, _, e⟩
  obtain ⟨_, rcur, hrb⟩ := row_is HMb.out.rns (by rw [e5, HRn.out]) (by omega)
  have n1 : g ≠ rb := by
    rintro rfl
    have := hrb.symm.trans HMb.out.blk
    simp at this
  have n2 : gi ≠ rb := by
    rintro rfl
    have := hrb.symm.trans HIb.out
    simp at this
  have n3 : ge ≠ rb := by
    rintro rfl
    have := hrb.symm.trans HEb.out
    simp at this
  have n4 : g ≠ ge := by
    rintro rfl
    have := HEb.out.symm.trans HMb.out.blk
    simp at this
  have n5 : pb ≠ rb := by
    have := HPo.out
    omega
  have hbg := hgr5.block g (blk_lt HMb.out.blk) (by simpa using n1)
  have hbi := hgr5.block gi (blk_lt HIb.out) (by simpa using n2)
  have hbe := hgr5.block ge (blk_lt HEb.out) (by simpa using n3)
  have hbp := hgr5.block pb (lt_of_cell HSb.out.2.2.2.2) (by simpa using n5)
  have HS5 : Hid (W5.cell? ⟨g, 5, none⟩ = some (.slice (some ⟨rb, 0, none⟩) n rcap) ∧ W5.cell? ⟨gi, 1, none⟩ = some (.int .i64 (c : Int)) ∧ W5.rangeAt rb (k * 11 + 2) [.int .i64 u0, .int .i64 u1, .int .i64 u2, .int .i64 u3, .int .i64 u4, .int .i64 u5, .int .i64 u6, .int .i64 u7] ∧ W5.cell? ⟨g, 0, none⟩ = some (.slice (some ⟨pb, po, none⟩) pn pc) ∧ W5.cell? ⟨pb, po + c, none⟩ = some (.slice A pl K0)) := ⟨by rw [cell_of hbg]; exact HSb.out.1, by rw [cell_of hbi]; exact HSb.out.2.1, fun j v hv => hold5 _ _ (HRL.out j v hv), by rw [cell_of hbg]; exact HSb.out.2.2.2.1, by rw [cell_of hbp]; exact HSb.out.2.2.2.2⟩
  have HM5 := TW.hide (HMb.out.addRn ⟨c, 0, (Mc.rn t k).regs, eb⟩ (.slice av nv cv) (by rw [HNw.out, HRn.out]; exact hown5) (by rw [e5]; exact hgr5))
  have HE5 : Hid (EvB (W5.setCell ⟨g, 5, none⟩ (.slice av nv cv)) ge ⟨k, 14, c, n, false⟩) := (HEb.out.keep hbe).setB n4
  have cz := HS5.out.1
  have fz : W5.frozen? ⟨g, 5, none⟩ = false := by simp [World.frozen?, hbg, HMb.out.blk]
  clear hown5 hgr5 hold5 hrb n1 n2 n3 n4 n5 hbg hbi hbe hbp HMb HEb HIb HQb HSb hrow hir hz0 hz1 hz2
  refine HK.out _ _ trivial (fun _ => HS5.out) ?_
  clear HK KX
  refine RG.wpL_take (fuel := 1) (a' := ?Ab) [29, 30] (by kernel_rfl) (by kernel_rfl) (fun _ _ _ _ _ h => h) trivial (fun _ => HS5.out) ?rb ?_
  case rb =>
    refine RG.RunsIf.weak (v := ?_) (by rfl) (by rfl) (fun Z hT => ?_) ?_
    rotate_left
    · go_simp
      rfl
    simp only [Act.put, List.setIfInBounds_toArray, List.set_cons_zero, List.set_cons_succ, List.getElem_toArray, List.getElem_cons_zero, List.getElem_cons_succ]
    refine RG.RunsIf.weak (v := ?_) (by rfl) (by rfl) (fun Z hT => ?_) ?_
    rotate_left
    · go_simp
      rfl
    simp only [Act.put, List.setIfInBounds_toArray, List.set_cons_zero, List.set_cons_succ, List.getElem_toArray, List.getElem_cons_zero, List.getElem_cons_succ]
    exact RG.RunsIf.nil
  refine RG.wpL_late (i := 31) (by kernel_rfl) (by rfl) (by rfl) (by kernel_rfl) (fun KX hK => ?_)
  have HK := TW.hide hK
  clear hK
  go_simp
  refine HK.out _ _ trivial ?_
  clear HK KX cz fz
  refine RG.wpL_done (by kernel_rfl) ?_ _
  refine NoPanic.normal ?_
  go_wp2
  rw [← HP.out]
  exact ⟨rfl, _, HM5.out, HE5.out, rfl, rfl, rfl⟩
end LW
end Go.Proofs.Ytghpfhoajcgghaa
