/-
  What Play of the document's machine tells.
-/
import Derived.Test.YtghpfhoajcgghaaSysB
namespace Go.Proofs.Ytghpfhoajcgghaa
open Go.RowKit
set_option linter.unusedVariables false
set_option linter.unusedSimpArgs false
namespace LW
open Mc
/-- A run that a call tells. -/
def RunP (w : World) (r : Int × Int × St) : Ending → World → Prop := fun e w' => ∃ ev cv, e = .returned (.agg #[.int .i64 r.1, .int .i64 r.2.1, ev, .int .i64 (r.2.2.rns.length : Int), cv]) ∧ w'.ownsRow w.heap.size 45 5 ev r.2.2.evs.length (evC r.2.2.evs) ∧ w'.ownsRow w.heap.size 3 1 cv r.2.2.cells.length (r.2.2.cells.map (Value.int .i64)) ∧ Below w.heap.size w w'
theorem own_base {w : World} {B B' n s : Nat} {t : TypeId} {v : Value} {xs : List Value} (h : w.ownsRow B t s v n xs) (hB : B' ≤ B) : w.ownsRow B' t s v n xs := by
  refine ⟨h.1, ?_⟩
  rcases h.2 with h1 | ⟨g, cap, cur, e, hg, h2⟩
  · exact .inl h1
  · exact .inr ⟨g, cap, cur, e, Nat.le_trans hB hg, h2⟩
theorem run_fin {s : Syst} {picks : List Int} {f : Nat} {t : St} (h : fin s t ≠ 0) : run s picks (f + 1) t = (fin s t, 0, t) := by rw [run, if_pos h]
theorem run_bad {s : Syst} {picks : List Int} {f : Nat} {t : St} (h : fin s t = 0) (hb : bad s t (turn s picks t) ≠ 0) : run s picks (f + 1) t = (3, bad s t (turn s picks t), Mc.step s t (turn s picks t)) := by rw [run, if_neg (by simp [h]), if_pos hb]
theorem run_on {s : Syst} {picks : List Int} {f : Nat} {t : St} (h : fin s t = 0) (hb : bad s t (turn s picks t) = 0) : run s picks (f + 1) t = run s picks f (Mc.step s t (turn s picks t)) := by rw [run, if_neg (by simp [h]), if_neg (by simp [hb])]
/-- Where a run stands: it goes on, or it is told. -/
def Stands (s : Syst) (picks : List Int) (k : Nat) (en fl : Int) (t : St) : Prop := (en = 0 ∧ fl = 0 ∧ k = t.evs.length ∧ Mc.Good s t ∧ Mc.play s picks = run s picks (40001 - t.evs.length) t) ∨ (en ≠ 0 ∧ Mc.play s picks = (en, fl, t))
theorem own_open13 {w : World} {B n s : Nat} {t : TypeId} {v : Value} {xs : List Value} (h : w.ownsRow B t s v n xs) : ∃ a c, v = .slice a n c := by
  rcases h.2 with ⟨e, h0⟩ | ⟨_, _, _, e, _⟩
  · exact ⟨_, _, by rw [e, h0]⟩
  · exact ⟨_, _, e⟩
set_option maxRecDepth 100000 in
set_option maxHeartbeats 4000000 in
theorem rplay (s : Syst) (pa : Option Addr) (pc : Nat) (ra : Option Addr) (rc : Nat) (pka : Option Addr) (pkc : Nat) (picks : List Int) (w : World) (hS : SM w s pa ra) (ho : Mc.Ok s) (hm : Mc.Nm s) (hp : NR w pka picks) (hpl : picks.length ≤ 9223372036854775807) :
    Calls Try.prog 10 #[.agg (syC s pa pc ra rc), .slice pka picks.length pkc] w (RunP w (Mc.play s picks)) := by
  have HOk := TW.hide ho
  have HNm := TW.hide hm
  have HPk := TW.hide hp
  unfold syC
  have hA : Below w.heap.size w ((w.alloc (.cells #[.slice pa s.progs.length pc, .slice ra s.rooms.length rc, .int .i64 s.groups, .int .i64 s.locks, .int .i64 s.cells] 29)).alloc (.cells #[.int .i64 0, .int .i64 0, .slice none 0 0, .int .i64 0, .slice none 0 0] 38)) := ((Below.refl _ _).alloc (Nat.le_refl _) _).alloc (by simp) _
  have N1 : Hid (((w.alloc (.cells #[.slice pa s.progs.length pc, .slice ra s.rooms.length rc, .int .i64 s.groups, .int .i64 s.locks, .int .i64 s.cells] 29)).alloc (.cells #[.int .i64 0, .int .i64 0, .slice none 0 0, .int .i64 0, .slice none 0 0] 38)).heap[w.heap.size]? = some (.cells #[.slice pa s.progs.length pc, .slice ra s.rooms.length rc, .int .i64 s.groups, .int .i64 s.locks, .int .i64 s.cells] 29 (0, 0))) := blk_alloc (heap_alloc_new w _)
  have N2 : Hid (((w.alloc (.cells #[.slice pa s.progs.length pc, .slice ra s.rooms.length rc, .int .i64 s.groups, .int .i64 s.locks, .int .i64 s.cells] 29)).alloc (.cells #[.int .i64 0, .int .i64 0, .slice none 0 0, .int .i64 0, .slice none 0 0] 38)).heap[w.heap.size + 1]? = some (.cells #[.int .i64 0, .int .i64 0, .slice none 0 0, .int .i64 0, .slice none 0 0] 38 (0, 0))) := by
    have h1 := heap_alloc_new (w.alloc (.cells #[.slice pa s.progs.length pc, .slice ra s.rooms.length rc, .int .i64 s.groups, .int .i64 s.locks, .int .i64 s.cells] 29)) (.cells #[.int .i64 0, .int .i64 0, .slice none 0 0, .int .i64 0, .slice none 0 0] 38)
    have h2 : (w.alloc (.cells #[.slice pa s.progs.length pc, .slice ra s.rooms.length rc, .int .i64 s.groups, .int .i64 s.locks, .int .i64 s.cells] 29)).heap.size = w.heap.size + 1 := by simp
    rw [h2] at h1
    exact h1
  have HBg := TW.hide (rbegin s pa pc ra rc ((w.alloc (.cells #[.slice pa s.progs.length pc, .slice ra s.rooms.length rc, .int .i64 s.groups, .int .i64 s.locks, .int .i64 s.cells] 29)).alloc (.cells #[.int .i64 0, .int .i64 0, .slice none 0 0, .int .i64 0, .slice none 0 0] 38)) (hS.below hA) ho)
  unfold syC at HBg
  clear hS ho hm hp
  generalize hPOST : RunP w (Mc.play s picks) = POST
  have HP := TW.hide hPOST
  clear hPOST
  go_enter Try.func10, Try.ntmps10
  refine wp_seq_k fun K hK => ?_
  have HK := TW.hide hK
  clear hK
  go_wp2
  refine HK.out _ _ ?_
  clear HK K
  have HBV := TW.hide hA
  clear hA
  generalize World.alloc _ _ = V at *
  generalize hbR : w.heap.size + 1 = bR at *
  obtain ⟨s0, s1, s2, s3, s4⟩ := cellsY5 N1.out
  refine wp_seq_k fun K hK => ?_
  have HK := TW.hide hK
  clear hK
  go_wp2_with fail
  refine HBg.out.mono ?_
  rintro e1 w1 ⟨m, rfl, hB1, hG⟩
  clear HBg
  obtain ⟨a5, n5, c5, e5⟩ := own_form13 hB1.rns
  obtain ⟨a6, n6, c6, e6⟩ := own_form13 hB1.hld
  obtain ⟨a7, n7, c7, e7⟩ := own_form13 hB1.sht
  obtain ⟨a8, n8, c8, e8⟩ := own_form13 hB1.lck
  obtain ⟨a9, n9, c9, e9⟩ := own_form13 hB1.grp
  obtain ⟨a10, n10, c10, e10⟩ := own_form13 hB1.cel
  obtain ⟨a11, n11, c11, e11⟩ := own_form13 hB1.evs
  have hCL : wdC s pa pc ra rc m.rv m.hv m.sv m.lv m.gv m.cv m.ev = #[.slice pa s.progs.length pc, .slice ra s.rooms.length rc, .int .i64 s.groups, .int .i64 s.locks, .int .i64 s.cells, .slice a5 n5 c5, .slice a6 n6 c6, .slice a7 n7 c7, .slice a8 n8 c8, .slice a9 n9 c9, .slice a10 n10 c10, .slice a11 n11 c11] := by
    unfold wdC
    rw [e5, e6, e7, e8, e9, e10, e11]
  have hsz := hB1.bl.size
  have hB2 := hB1.below ((Below.refl w1.heap.size w1).alloc (Nat.le_refl _) (.cells #[.slice none 0 0, .slice none 0 0, .int .i64 0, .int .i64 0, .int .i64 0, .slice none 0 0, .slice none 0 0, .slice none 0 0, .slice none 0 0, .slice none 0 0, .slice none 0 0, .slice none 0 0] 58))
  have NW := heap_alloc_new w1 (.cells #[.slice none 0 0, .slice none 0 0, .int .i64 0, .int .i64 0, .int .i64 0, .slice none 0 0, .slice none 0 0, .slice none 0 0, .slice none 0 0, .slice none 0 0, .slice none 0 0, .slice none 0 0] 58)
  have HM1 : Hid (WM V ((w1.alloc (.cells #[.slice none 0 0, .slice none 0 0, .int .i64 0, .int .i64 0, .int .i64 0, .slice none 0 0, .slice none 0 0, .slice none 0 0, .slice none 0 0, .slice none 0 0, .slice none 0 0, .slice none 0 0] 58)).setRow w1.heap.size #[.slice pa s.progs.length pc, .slice ra s.rooms.length rc, .int .i64 s.groups, .int .i64 s.locks, .int .i64 s.cells, .slice a5 n5 c5, .slice a6 n6 c6, .slice a7 n7 c7, .slice a8 n8 c8, .slice a9 n9 c9, .slice a10 n10 c10, .slice a11 n11 c11]) w1.heap.size s pa pc ra rc (Mc.first s) m) := (hB2.setW NW hsz).box hG hsz (by rw [hCL]; exact setRow_heap _ _ _ _ _ _ NW)
  rw [hCL]
  clear hCL hB1 hB2 NW e5 e6 e7 e8 e9 e10 e11
  go_wp2_with (refine wpList_store_row (by rfl) 58 _ _ (by rfl) w1.heap.size #[.slice pa s.progs.length pc, .slice ra s.rooms.length rc, .int .i64 s.groups, .int .i64 s.locks, .int .i64 s.cells, .slice a5 n5 c5, .slice a6 n6 c6, .slice a7 n7 c7, .slice a8 n8 c8, .slice a9 n9 c9, .slice a10 n10 c10, .slice a11 n11 c11] (by rfl) (by rfl) 58 _ (heap_alloc_new w1 _) (by kernel_rfl) (by rfl) (by simp [Value.oneCell']) ?_)
  refine HK.out _ _ ?_
  clear HK
  generalize World.setRow _ _ _ = X at *
  generalize w1.heap.size = g3 at *
  simp only [Act.put, List.setIfInBounds_toArray, List.set_cons_zero, List.set_cons_succ, List.getElem_toArray, List.getElem_cons_zero, List.getElem_cons_succ]
  have HBX : Hid (Below X.heap.size X ((X.alloc (.cells #[.int .i64 0, .int .i64 0, .slice none 0 0, .int .i64 0, .slice none 0 0] 38)).setRow X.heap.size #[.int .i64 0, .int .i64 0, .slice none 0 0, .int .i64 0, .slice none 0 0])) := below_setRow ((Below.refl _ _).alloc (Nat.le_refl _) _) (Nat.le_refl _)
  have NGR : Hid (((X.alloc (.cells #[.int .i64 0, .int .i64 0, .slice none 0 0, .int .i64 0, .slice none 0 0] 38)).setRow X.heap.size #[.int .i64 0, .int .i64 0, .slice none 0 0, .int .i64 0, .slice none 0 0]).heap[X.heap.size]? = some (.cells #[.int .i64 0, .int .i64 0, .slice none 0 0, .int .i64 0, .slice none 0 0] 38 (0, 0))) := setRow_heap _ _ _ _ _ _ (heap_alloc_new X _)
  have HM2 := TW.hide ((HM1.out.below HBX.out).guest NGR.out)
  have hszX : V.heap.size ≤ X.heap.size := HM1.out.bl.size
  refine wp_seq_k fun K hK => ?_
  have HK := TW.hide hK
  clear hK
  go_wp2_with (refine wpList_store_row (by rfl) 38 _ _ (by rfl) X.heap.size #[.int .i64 0, .int .i64 0, .slice none 0 0, .int .i64 0, .slice none 0 0] (by rfl) (by rfl) 38 _ (heap_alloc_new X _) (by kernel_rfl) (by rfl) (by simp [Value.oneCell']) ?_)
  refine HK.out _ _ ?_
  clear HK
  clear HBX NGR HM1
  generalize World.setRow _ _ _ = X2 at *
  generalize X.heap.size = gR at *
  simp only [Act.put, List.setIfInBounds_toArray, List.set_cons_zero, List.set_cons_succ, List.getElem_toArray, List.getElem_cons_zero, List.getElem_cons_succ]
  refine wp_seq_k fun KZ hKZ => ?_
  have HR : Hid (∀ {u0 u2 u3 u7 u8 u9 u10 u11 u12 u13 u14 u15 u16 u17 u18 u19 u20 u21 u22 u23 u24 u25 u26 u27 u28 u29 u30 u31 u32 u33 u34 u35 u36 u37 u38 u39 u40 u41 u42 u43 u44 u45 u46 u47 u48 u49 u50 u51 u52 u53 u54 u55 u56 u57 u58 : Value} (W : World) (t : St) (m : WV) (en fl : Int), WM V W g3 s pa pc ra rc (t) (m) → m.gb = some gR → m.gc = #[.int .i64 en, .int .i64 fl, .slice none 0 0, .int .i64 0, .slice none 0 0] → Mc.play s picks = (en, fl, t) → KZ { tmps := #[u0, .slice pka picks.length pkc, u2, u3, .pointer (some ⟨bR, 0, none⟩), .pointer (some ⟨g3, 0, none⟩), .pointer (some ⟨gR, 0, none⟩), u7, u8, u9, u10, u11, u12, u13, u14, u15, u16, u17, u18, u19, u20, u21, u22, u23, u24, u25, u26, u27, u28, u29, u30, u31, u32, u33, u34, u35, u36, u37, u38, u39, u40, u41, u42, u43, u44, u45, u46, u47, u48, u49, u50, u51, u52, u53, u54, u55, u56, u57, u58], defers := [] } W) := by
    intro u0 u2 u3 u7 u8 u9 u10 u11 u12 u13 u14 u15 u16 u17 u18 u19 u20 u21 u22 u23 u24 u25 u26 u27 u28 u29 u30 u31 u32 u33 u34 u35 u36 u37 u38 u39 u40 u41 u42 u43 u44 u45 u46 u47 u48 u49 u50 u51 u52 u53 u54 u55 u56 u57 u58 W t m en fl hW hgb hgc hpy
    refine hKZ _ _ ?_
    clear hKZ KZ
    have HPY := TW.hide hpy
    clear hpy
    obtain ⟨xa, xn, xc, ex⟩ := own_form13 hW.evs
    obtain ⟨ya, yn, yc, ey⟩ := own_form13 hW.cel
    obtain ⟨za, zc, ez⟩ := own_open13 hW.rns
    have HM := TW.hide hW
    have HXS : Hid (m.ev = .slice xa xn xc ∧ m.cv = .slice ya yn yc ∧ m.rv = .slice za t.rns.length zc) := ⟨ex, ey, ez⟩
    have hgc0 : m.gc = #[.int .i64 en, .int .i64 fl, .slice none 0 0, .int .i64 0, .slice none 0 0] := hgc
    clear hW hgc ex ey ez
    have d0 : W.cell? ⟨gR, 2, none⟩ = some (.slice none 0 0) := blk_cell (by have := HM.out.gst gR hgb; rw [hgc0] at this; exact this) rfl
    have fz : W.frozen? ⟨gR, 2, none⟩ = false := by simp [World.frozen?, HM.out.gst gR hgb]
    have cs := HM.out.c11
    rw [HXS.out.1] at cs
    have HM_ := TW.hide (HM.out.setG hgb hszX 2 (.slice xa xn xc))
    refine wp_seq_k fun K hK => ?_
    have HK := TW.hide hK
    clear hK
    go_wp2
    refine HK.out _ _ ?_
    clear HK d0 fz cs HM
    have hgb_ : ({ m with gc := m.gc.setIfInBounds 2 (.slice xa xn xc) } : WV).gb = some gR := hgb
    have hgc_ : ({ m with gc := m.gc.setIfInBounds 2 (.slice xa xn xc) } : WV).gc = #[.int .i64 en, .int .i64 fl, .slice xa xn xc, .int .i64 0, .slice none 0 0] := by
      show m.gc.setIfInBounds 2 _ = _
      rw [hgc0]
      rfl
    have HXS_ : Hid (({ m with gc := m.gc.setIfInBounds 2 (.slice xa xn xc) } : WV).ev = .slice xa xn xc ∧ ({ m with gc := m.gc.setIfInBounds 2 (.slice xa xn xc) } : WV).cv = .slice ya yn yc ∧ ({ m with gc := m.gc.setIfInBounds 2 (.slice xa xn xc) } : WV).rv = .slice za t.rns.length zc) := HXS.out
    clear hgb hgc0 HXS
    generalize ({ m with gc := m.gc.setIfInBounds 2 (.slice xa xn xc) } : WV) = m_1 at *
    generalize World.setCell _ _ _ = W_1 at *
    have HM := HM_
    have hgb := hgb_
    have hgc0 := hgc_
    have HXS := HXS_
    clear HM_ hgb_ hgc_ HXS_
    have d1 : W_1.cell? ⟨gR, 3, none⟩ = some (.int .i64 0) := blk_cell (by have := HM.out.gst gR hgb; rw [hgc0] at this; exact this) rfl
    have fz : W_1.frozen? ⟨gR, 3, none⟩ = false := by simp [World.frozen?, HM.out.gst gR hgb]
    have cs := HM.out.c5
    rw [HXS.out.2.2] at cs
    have HM_ := TW.hide (HM.out.setG hgb hszX 3 (.int .i64 (t.rns.length : Int)))
    refine wp_seq_k fun K hK => ?_
    have HK := TW.hide hK
    clear hK
    go_wp2
    refine HK.out _ _ ?_
    clear HK d1 fz cs HM
    have hgb_ : ({ m_1 with gc := m_1.gc.setIfInBounds 3 (.int .i64 (t.rns.length : Int)) } : WV).gb = some gR := hgb
    have hgc_ : ({ m_1 with gc := m_1.gc.setIfInBounds 3 (.int .i64 (t.rns.length : Int)) } : WV).gc = #[.int .i64 en, .int .i64 fl, .slice xa xn xc, .int .i64 (t.rns.length : Int), .slice none 0 0] := by
      show m_1.gc.setIfInBounds 3 _ = _
      rw [hgc0]
      rfl
    have HXS_ : Hid (({ m_1 with gc := m_1.gc.setIfInBounds 3 (.int .i64 (t.rns.length : Int)) } : WV).ev = .slice xa xn xc ∧ ({ m_1 with gc := m_1.gc.setIfInBounds 3 (.int .i64 (t.rns.length : Int)) } : WV).cv = .slice ya yn yc ∧ ({ m_1 with gc := m_1.gc.setIfInBounds 3 (.int .i64 (t.rns.length : Int)) } : WV).rv = .slice za t.rns.length zc) := HXS.out
    clear hgb hgc0 HXS
    generalize ({ m_1 with gc := m_1.gc.setIfInBounds 3 (.int .i64 (t.rns.length : Int)) } : WV) = m_2 at *
    generalize World.setCell _ _ _ = W_2 at *
    have HM := HM_
    have hgb := hgb_
    have hgc0 := hgc_
    have HXS := HXS_
    clear HM_ hgb_ hgc_ HXS_
    have d2 : W_2.cell? ⟨gR, 4, none⟩ = some (.slice none 0 0) := blk_cell (by have := HM.out.gst gR hgb; rw [hgc0] at this; exact this) rfl
    have fz : W_2.frozen? ⟨gR, 4, none⟩ = false := by simp [World.frozen?, HM.out.gst gR hgb]
    have cs := HM.out.c10
    rw [HXS.out.2.1] at cs
    have HM_ := TW.hide (HM.out.setG hgb hszX 4 (.slice ya yn yc))
    refine wp_seq_k fun K hK => ?_
    have HK := TW.hide hK
    clear hK
    go_wp2
    refine HK.out _ _ ?_
    clear HK d2 fz cs HM
    have hgb_ : ({ m_2 with gc := m_2.gc.setIfInBounds 4 (.slice ya yn yc) } : WV).gb = some gR := hgb
    have hgc_ : ({ m_2 with gc := m_2.gc.setIfInBounds 4 (.slice ya yn yc) } : WV).gc = #[.int .i64 en, .int .i64 fl, .slice xa xn xc, .int .i64 (t.rns.length : Int), .slice ya yn yc] := by
      show m_2.gc.setIfInBounds 4 _ = _
      rw [hgc0]
      rfl
    have HXS_ : Hid (({ m_2 with gc := m_2.gc.setIfInBounds 4 (.slice ya yn yc) } : WV).ev = .slice xa xn xc ∧ ({ m_2 with gc := m_2.gc.setIfInBounds 4 (.slice ya yn yc) } : WV).cv = .slice ya yn yc ∧ ({ m_2 with gc := m_2.gc.setIfInBounds 4 (.slice ya yn yc) } : WV).rv = .slice za t.rns.length zc) := HXS.out
    clear hgb hgc0 HXS
    generalize ({ m_2 with gc := m_2.gc.setIfInBounds 4 (.slice ya yn yc) } : WV) = m_3 at *
    generalize World.setCell _ _ _ = W_3 at *
    have HM := HM_
    have hgb := hgb_
    have hgc0 := hgc_
    have HXS := HXS_
    clear HM_ hgb_ hgc_ HXS_
    have NG3 : Hid (W_3.heap[gR]? = some (.cells #[.int .i64 en, .int .i64 fl, .slice xa xn xc, .int .i64 (t.rns.length : Int), .slice ya yn yc] 38 (0, 0))) := by
      have := HM.out.gst gR hgb
      rw [hgc0] at this
      exact this
    have NB3 : Hid (W_3.heap[bR]? = some (.cells #[.int .i64 0, .int .i64 0, .slice none 0 0, .int .i64 0, .slice none 0 0] 38 (0, 0))) := blk_keep N2.out HM.out.bl
    have HZ2 : Hid ((W_3.setRow bR #[.int .i64 en, .int .i64 fl, .slice xa xn xc, .int .i64 (t.rns.length : Int), .slice ya yn yc]).heap[bR]? = some (.cells #[.int .i64 en, .int .i64 fl, .slice xa xn xc, .int .i64 (t.rns.length : Int), .slice ya yn yc] 38 (0, 0))) := setRow_heap _ _ _ _ _ _ NB3.out
    go_wp2_with (first | (refine wpList_load_row (by rfl) 38 _ (by rfl) gR (by rfl) 38 #[.int .i64 en, .int .i64 fl, .slice xa xn xc, .int .i64 (t.rns.length : Int), .slice ya yn yc] (0, 0) _ NG3.out Try.underlying38 rfl (by kernel_rfl) ?_) | (refine wpList_store_row (by rfl) 38 _ _ (by rfl) bR #[.int .i64 en, .int .i64 fl, .slice xa xn xc, .int .i64 (t.rns.length : Int), .slice ya yn yc] (by rfl) (by rfl) 38 _ NB3.out (by kernel_rfl) (by rfl) (by simp [Value.oneCell']) ?_))
    refine bodyPost_ret (v := .agg #[.int .i64 en, .int .i64 fl, .slice xa xn xc, .int .i64 (t.rns.length : Int), .slice ya yn yc]) (results_cell_row (P := Try.prog) Try.results10 _ _ bR 38 _ (0, 0) _ rfl HZ2.out Try.underlying38 rfl (by kernel_rfl)) rfl ?_
    rw [← HP.out, HPY.out]
    have hsz := HBV.out.size
    have h1 := HM.out.evs
    have h2 := HM.out.cel
    rw [HXS.out.1] at h1
    rw [HXS.out.2.1] at h2
    exact ⟨.slice xa xn xc, .slice ya yn yc, rfl, own_base (own_rowN h1 NB3.out (by decide)) hsz, own_base (own_rowN h2 NB3.out (by decide)) hsz, below_setRow (HBV.out.trans (HM.out.bl.mono hsz)) (by omega)⟩
  clear hKZ
  have HS0 : Hid (Stands s picks 0 0 0 (Mc.first s)) := .inl ⟨rfl, rfl, rfl, good_first HOk.out, rfl⟩
  go_wp2
  go_loopw [7] (fun n wr => ∃ (k : Nat) (t : St) (m : WV) (en fl : Int), n = .int .i64 (k : Int) ∧ k ≤ 40001 ∧ Hid (WM V wr g3 s pa pc ra rc (t) (m)) ∧ Hid (m.gb = some gR) ∧ Hid (m.gc = #[.int .i64 en, .int .i64 fl, .slice none 0 0, .int .i64 0, .slice none 0 0]) ∧ Hid (Stands s picks k en fl t)) (fun n _ => 40002 - (intOf n).toNat)
  case atStart => exact ⟨0, _, _, 0, 0, rfl, by omega, HM2, TW.hide rfl, TW.hide rfl, HS0⟩
  case round =>
    clear HM2 HS0
    obtain ⟨k, t, m, en, fl, rfl, hk, HM, HGb, HGc, HSt⟩ := hrel
    have d0 : wr.cell? ⟨gR, 0, none⟩ = some (.int .i64 en) := blk_cell (by have := HM.out.gst gR HGb.out; rw [HGc.out] at this; exact this) rfl
    rcases HSt.out with ⟨rfl, rfl, hke, hgd, hpy⟩ | ⟨hen, hpy⟩
    · clear HSt
      have HGd := TW.hide hgd
      have HPY := TW.hide hpy
      have HKE := TW.hide hke
      have h1l := hgd.r1
      have hRn : (Mc.ready s t).length ≤ 512 := Nat.le_trans (ready_len s t) hgd.r2
      clear hgd hpy hke
      have HC1 := TW.hide (rready g3 s t wr (HM.out.rd h1l) HOk.out HGd.out)
      refine wp_seq_k fun Ka hKa => ?_
      have HKa := TW.hide hKa
      clear hKa
      go_wp2
      refine HKa.out _ _ ?_
      clear HKa
      refine wp_seq_k fun Kb hKb => ?_
      have HKb := TW.hide hKb
      clear hKb
      refine wp_block ?_
      refine wp_seq_k fun K6 hK6 => ?_
      have HK6 := TW.hide hK6
      clear hK6
      go_wp2_with fail
      refine HC1.out.mono ?_
      rintro e1 w1 ⟨v, rfl, hv, hb⟩
      obtain ⟨la, lc, rfl⟩ := own_open13 hv
      have HL1 := TW.hide hv
      have HM1 := TW.hide (HM.out.below hb)
      have HC2 := TW.hide (rend g3 s t w1 (HM1.out.rd h1l) HGd.out)
      have hwl := hb.size
      clear hv hb HC1 HM d0
      have HTn : Hid (turn s picks t = (Mc.ready s t).getD (if t.evs.length < picks.length then (rest (picks.getD t.evs.length 0) (Mc.ready s t).length).toNat else 0) 0) := rfl
      have HRp : Hid (Mc.fin s t = 0 → 0 < (Mc.ready s t).length) := fun h => fin_ready h
      have HRL : Hid (∀ pi, pi < (Mc.ready s t).length → (natV (Mc.ready s t))[pi]? = some (.int .i64 (((Mc.ready s t).getD pi 0 : Nat) : Int))) := fun pi hpi => by
        unfold natV
        rw [List.getElem?_map, List.getElem?_eq_getElem hpi, List.getD_eq_getElem?_getD, List.getElem?_eq_getElem hpi]
        rfl
      generalize hRr : (Mc.ready s t).length = R at *
      go_wp2
      refine HK6.out _ _ ?_
      clear HK6
      refine wp_seq_k fun K7 hK7 => ?_
      have HK7 := TW.hide hK7
      clear hK7
      have d0 : w1.cell? ⟨gR, 0, none⟩ = some (.int .i64 0) := blk_cell (by have := HM1.out.gst gR HGb.out; rw [HGc.out] at this; exact this) rfl
      have f0 : w1.frozen? ⟨gR, 0, none⟩ = false := by simp [World.frozen?, HM1.out.gst gR HGb.out]
      have HM2 := TW.hide (HM1.out.setG HGb.out hszX 0 (.int .i64 (Mc.fin s t)))
      have HL2 := TW.hide (own_setN (p := gR) (o := 0) (u := .int .i64 (Mc.fin s t)) HL1.out (HM1.out.gst gR HGb.out) (by decide))
      go_wp2_with fail
      refine HC2.out.mono ?_
      rintro e2 w2 ⟨rfl, rfl⟩
      clear HC2
      go_wp2
      refine HK7.out _ _ ?_
      clear HK7
      have HGb2 : Hid (({ m with gc := m.gc.setIfInBounds 0 (.int .i64 (Mc.fin s t)) } : WV).gb = some gR) := HGb.out
      have HGc2 : Hid (({ m with gc := m.gc.setIfInBounds 0 (.int .i64 (Mc.fin s t)) } : WV).gc = #[.int .i64 (Mc.fin s t), .int .i64 0, .slice none 0 0, .int .i64 0, .slice none 0 0]) := by
        show m.gc.setIfInBounds 0 _ = _
        rw [HGc.out]
        rfl
      clear d0 f0 HM1 HL1 HGb HGc
      generalize ({ m with gc := m.gc.setIfInBounds 0 (.int .i64 (Mc.fin s t)) } : WV) = m2 at *
      generalize World.setCell _ _ _ = W2 at *
      have HM := HM2
      have HL := HL2
      have HGb := HGb2
      clear HM2 HL2 HGb2
      have d0 : W2.cell? ⟨gR, 0, none⟩ = some (.int .i64 (Mc.fin s t)) := blk_cell (by have := HM.out.gst gR HGb.out; rw [HGc2.out] at this; exact this) rfl
      refine wp_seq_k fun K8 hK8 => ?_
      have HK8 := TW.hide hK8
      clear hK8
      by_cases hf : Mc.fin s t = 0
      · have HF0 := TW.hide hf
        have hR0 := HRp.out hf
        rw [hf] at d0 HGc2
        have HGc := HGc2
        clear hf HGc2 HRp
        go_wp2
        refine HK8.out _ _ ?_
        clear HK8
        refine wp_seq_k fun K9 hK9 => ?_
        have HK9 := TW.hide hK9
        clear hK9
        go_wp2
        refine HK9.out _ _ ?_
        clear HK9
        refine wp_seq_k fun K10 hK10 => ?_
        have HK10 := TW.hide hK10
        clear hK10
        clear d0
        obtain ⟨lb, rfl⟩ : ∃ lb, la = some ⟨lb, 0, none⟩ := by
          obtain ⟨b, cap, e, _⟩ := own_rd HL.out hR0
          injection e with e1
          exact ⟨b, e1⟩
        have HCS := TW.hide (rstep (turn s picks t) W2 HM.out HOk.out HNm.out HGd.out (turn_ok HF0.out).1 (turn_ok HF0.out).2 (fin_len HF0.out))
        by_cases hn : k < picks.length
        · have hn1 : (k : Int) < (picks.length : Int) := by omega
          have hn0 : (0 : Int) ≤ (k : Int) := by omega
          obtain ⟨kb, ko, rfl, xk⟩ : ∃ kb ko, pka = some ⟨kb, ko, none⟩ ∧ W2.cell? ⟨kb, ko + k, none⟩ = some (.int .i64 (picks.getD k 0)) := by
            rcases HPk.out with h | ⟨b, off, e, hq⟩
            · rw [h] at hn; simp at hn
            · exact ⟨b, off, e, keepC HM.out.bl (keepC HBV.out (hq k hn))⟩
          obtain ⟨pi, hpi, hpl_⟩ : ∃ pi : Nat, rest (picks.getD k 0) R = (pi : Int) ∧ pi < R := by
            have h1 := Int.emod_nonneg (picks.getD k 0) (show (R : Int) ≠ 0 by omega)
            have h2 := Int.emod_lt_of_pos (picks.getD k 0) (show (0 : Int) < R by omega)
            exact ⟨(rest (picks.getD k 0) R).toNat, by unfold rest; omega, by unfold rest; omega⟩
          have HRR : Hid (∀ W, Calls Try.prog 21 #[.int .i64 (picks.getD k 0), .int .i64 (R : Int)] W fun e w' => e = .returned (.int .i64 (pi : Int)) ∧ W = w') := fun W => by
            have := rrest (picks.getD k 0) R W (by omega) (by omega)
            unfold rest at hpi
            rwa [hpi] at this
          have HNx : Hid ((natV (Mc.ready s t))[pi]? = some (.int .i64 ((turn s picks t : Nat) : Int))) := by
            show _ = _
            rw [HRL.out pi hpl_, HTn.out, ← HKE.out, if_pos hn, hpi, Int.toNat_natCast]
          clear hpi hn HTn HRL
          generalize picks.getD k 0 = pk at *
          go_wp2_with fail
          refine (HRR.out _).mono ?_
          rintro e3 w3 ⟨rfl, rfl⟩
          clear HRR xk
          go_wp2
          refine HK10.out _ _ ?_
          clear HK10
          refine wp_seq_k fun K12 hK12 => ?_
          have HK12 := TW.hide hK12
          clear hK12
          have x1 := own_rdA HL.out rfl hR0 pi _ HNx.out
          have pI : (pi : Int) < (R : Int) := by omega
          have pJ : (0 : Int) ≤ (pi : Int) := by omega
          go_wp2_with fail
          refine HCS.out.mono ?_
          rintro e4 w4 ⟨rfl, m4, hM4, hb4, hc4⟩
          have HM4 := TW.hide hM4
          have HGb4 : Hid (m4.gb = some gR) := by rw [hb4]; exact HGb.out
          have HGc4 : Hid (m4.gc = #[.int .i64 0, .int .i64 0, .slice none 0 0, .int .i64 0, .slice none 0 0]) := by rw [hc4]; exact HGc.out
          clear hM4 hb4 hc4 x1 HM HL HCS
          go_wp2
          refine HK12.out _ _ ?_
          clear HK12
          by_cases hbd : bad s t (turn s picks t) = 0
          · have HSt4 : Hid (Stands s picks (k + 1) 0 0 (Mc.step s t (turn s picks t))) := by
              refine .inl ⟨rfl, rfl, ?_, good_turn HOk.out HNm.out HGd.out HF0.out, ?_⟩
              · rw [step_evs, HKE.out]; simp
              · have h1 := HPY.out
                have h2 := fin_len HF0.out
                rw [show 40001 - t.evs.length = (40000 - t.evs.length) + 1 by omega, run_on HF0.out hbd] at h1
                rw [h1, step_evs]
                congr 1
                simp only [List.length_append, List.length_cons, List.length_nil]
                omega
            have hk4 : k + 1 ≤ 40001 := by have := fin_len HF0.out; have := HKE.out; omega
            rw [hbd]
            clear hbd
            go_wp2
            refine HKb.out _ _ ?_
            clear HKb
            go_wp2
            go_roundw
            case rel => exact ⟨k + 1, _, m4, 0, 0, by go_num, hk4, HM4, HGb4, HGc4, HSt4⟩
            case measure => simp [intOf]; omega
          · have HSt4 : Hid (Stands s picks (k + 1) 3 (bad s t (turn s picks t)) (Mc.step s t (turn s picks t))) := by
              refine .inr ⟨by decide, ?_⟩
              have h1 := HPY.out
              have h2 := fin_len HF0.out
              rw [show 40001 - t.evs.length = (40000 - t.evs.length) + 1 by omega, run_bad HF0.out hbd] at h1
              exact h1
            have hk4 : k + 1 ≤ 40001 := by have := fin_len HF0.out; have := HKE.out; omega
            have kb : (bad s t (turn s picks t) != 0) = true := by simpa using hbd
            clear hbd
            generalize bad s t (turn s picks t) = bb at *
            have d0 : w4.cell? ⟨gR, 0, none⟩ = some (.int .i64 0) := blk_cell (by have := HM4.out.gst gR HGb4.out; rw [HGc4.out] at this; exact this) rfl
            have f0 : w4.frozen? ⟨gR, 0, none⟩ = false := by simp [World.frozen?, HM4.out.gst gR HGb4.out]
            have HM5 := TW.hide (HM4.out.setG HGb4.out hszX 0 (.int .i64 3))
            have hgb5 : ({ m4 with gc := m4.gc.setIfInBounds 0 (.int .i64 3) } : WV).gb = some gR := HGb4.out
            have hgc5 : ({ m4 with gc := m4.gc.setIfInBounds 0 (.int .i64 3) } : WV).gc = #[.int .i64 3, .int .i64 0, .slice none 0 0, .int .i64 0, .slice none 0 0] := by
              show m4.gc.setIfInBounds 0 _ = _
              rw [HGc4.out]
              rfl
            have d1 : (w4.setCell ⟨gR, 0, none⟩ (.int .i64 3)).cell? ⟨gR, 1, none⟩ = some (.int .i64 0) := blk_cell (by have := HM5.out.gst gR hgb5; rw [hgc5] at this; exact this) rfl
            have f1 : (w4.setCell ⟨gR, 0, none⟩ (.int .i64 3)).frozen? ⟨gR, 1, none⟩ = false := by simp [World.frozen?, HM5.out.gst gR hgb5]
            have HM6 := TW.hide (HM5.out.setG hgb5 hszX 1 (.int .i64 bb))
            have HGc6 : Hid (({ ({ m4 with gc := m4.gc.setIfInBounds 0 (.int .i64 3) } : WV) with gc := ({ m4 with gc := m4.gc.setIfInBounds 0 (.int .i64 3) } : WV).gc.setIfInBounds 1 (.int .i64 bb) } : WV).gc = #[.int .i64 3, .int .i64 bb, .slice none 0 0, .int .i64 0, .slice none 0 0]) := by
              show ({ m4 with gc := m4.gc.setIfInBounds 0 (.int .i64 3) } : WV).gc.setIfInBounds 1 _ = _
              rw [hgc5]
              rfl
            have HGb6 : Hid (({ ({ m4 with gc := m4.gc.setIfInBounds 0 (.int .i64 3) } : WV) with gc := ({ m4 with gc := m4.gc.setIfInBounds 0 (.int .i64 3) } : WV).gc.setIfInBounds 1 (.int .i64 bb) } : WV).gb = some gR) := HGb4.out
            clear hgb5 hgc5 HM4 HM5
            go_wp2
            refine HKb.out _ _ ?_
            clear HKb
            clear d0 f0 d1 f1
            generalize World.setCell _ _ _ = w6 at *
            go_wp2
            go_roundw
            case rel => exact ⟨k + 1, _, _, 3, bb, by go_num, hk4, HM6, HGb6, HGc6, HSt4⟩
            case measure => simp [intOf]; omega
        · have hn1 : ((k : Int) < (picks.length : Int)) = False := by simp; omega
          have HNx : Hid ((natV (Mc.ready s t))[0]? = some (.int .i64 ((turn s picks t : Nat) : Int))) := by
            show _ = _
            rw [HRL.out 0 hR0, HTn.out, ← HKE.out, if_neg hn]
          clear hn HTn HRL
          go_wp2
          refine HK10.out _ _ ?_
          clear HK10
          refine wp_seq_k fun K12 hK12 => ?_
          have HK12 := TW.hide hK12
          clear hK12
          have x1 := own_rdA HL.out rfl hR0 0 _ HNx.out
          have pI : (0 : Int) < (R : Int) := by omega
          have pJ : (0 : Int) ≤ (0 : Int) := by omega
          go_wp2_with fail
          refine HCS.out.mono ?_
          rintro e4 w4 ⟨rfl, m4, hM4, hb4, hc4⟩
          have HM4 := TW.hide hM4
          have HGb4 : Hid (m4.gb = some gR) := by rw [hb4]; exact HGb.out
          have HGc4 : Hid (m4.gc = #[.int .i64 0, .int .i64 0, .slice none 0 0, .int .i64 0, .slice none 0 0]) := by rw [hc4]; exact HGc.out
          clear hM4 hb4 hc4 x1 HM HL HCS
          go_wp2
          refine HK12.out _ _ ?_
          clear HK12
          by_cases hbd : bad s t (turn s picks t) = 0
          · have HSt4 : Hid (Stands s picks (k + 1) 0 0 (Mc.step s t (turn s picks t))) := by
              refine .inl ⟨rfl, rfl, ?_, good_turn HOk.out HNm.out HGd.out HF0.out, ?_⟩
              · rw [step_evs, HKE.out]; simp
              · have h1 := HPY.out
                have h2 := fin_len HF0.out
                rw [show 40001 - t.evs.length = (40000 - t.evs.length) + 1 by omega, run_on HF0.out hbd] at h1
                rw [h1, step_evs]
                congr 1
                simp only [List.length_append, List.length_cons, List.length_nil]
                omega
            have hk4 : k + 1 ≤ 40001 := by have := fin_len HF0.out; have := HKE.out; omega
            rw [hbd]
            clear hbd
            go_wp2
            refine HKb.out _ _ ?_
            clear HKb
            go_wp2
            go_roundw
            case rel => exact ⟨k + 1, _, m4, 0, 0, by go_num, hk4, HM4, HGb4, HGc4, HSt4⟩
            case measure => simp [intOf]; omega
          · have HSt4 : Hid (Stands s picks (k + 1) 3 (bad s t (turn s picks t)) (Mc.step s t (turn s picks t))) := by
              refine .inr ⟨by decide, ?_⟩
              have h1 := HPY.out
              have h2 := fin_len HF0.out
              rw [show 40001 - t.evs.length = (40000 - t.evs.length) + 1 by omega, run_bad HF0.out hbd] at h1
              exact h1
            have hk4 : k + 1 ≤ 40001 := by have := fin_len HF0.out; have := HKE.out; omega
            have kb : (bad s t (turn s picks t) != 0) = true := by simpa using hbd
            clear hbd
            generalize bad s t (turn s picks t) = bb at *
            have d0 : w4.cell? ⟨gR, 0, none⟩ = some (.int .i64 0) := blk_cell (by have := HM4.out.gst gR HGb4.out; rw [HGc4.out] at this; exact this) rfl
            have f0 : w4.frozen? ⟨gR, 0, none⟩ = false := by simp [World.frozen?, HM4.out.gst gR HGb4.out]
            have HM5 := TW.hide (HM4.out.setG HGb4.out hszX 0 (.int .i64 3))
            have hgb5 : ({ m4 with gc := m4.gc.setIfInBounds 0 (.int .i64 3) } : WV).gb = some gR := HGb4.out
            have hgc5 : ({ m4 with gc := m4.gc.setIfInBounds 0 (.int .i64 3) } : WV).gc = #[.int .i64 3, .int .i64 0, .slice none 0 0, .int .i64 0, .slice none 0 0] := by
              show m4.gc.setIfInBounds 0 _ = _
              rw [HGc4.out]
              rfl
            have d1 : (w4.setCell ⟨gR, 0, none⟩ (.int .i64 3)).cell? ⟨gR, 1, none⟩ = some (.int .i64 0) := blk_cell (by have := HM5.out.gst gR hgb5; rw [hgc5] at this; exact this) rfl
            have f1 : (w4.setCell ⟨gR, 0, none⟩ (.int .i64 3)).frozen? ⟨gR, 1, none⟩ = false := by simp [World.frozen?, HM5.out.gst gR hgb5]
            have HM6 := TW.hide (HM5.out.setG hgb5 hszX 1 (.int .i64 bb))
            have HGc6 : Hid (({ ({ m4 with gc := m4.gc.setIfInBounds 0 (.int .i64 3) } : WV) with gc := ({ m4 with gc := m4.gc.setIfInBounds 0 (.int .i64 3) } : WV).gc.setIfInBounds 1 (.int .i64 bb) } : WV).gc = #[.int .i64 3, .int .i64 bb, .slice none 0 0, .int .i64 0, .slice none 0 0]) := by
              show ({ m4 with gc := m4.gc.setIfInBounds 0 (.int .i64 3) } : WV).gc.setIfInBounds 1 _ = _
              rw [hgc5]
              rfl
            have HGb6 : Hid (({ ({ m4 with gc := m4.gc.setIfInBounds 0 (.int .i64 3) } : WV) with gc := ({ m4 with gc := m4.gc.setIfInBounds 0 (.int .i64 3) } : WV).gc.setIfInBounds 1 (.int .i64 bb) } : WV).gb = some gR) := HGb4.out
            clear hgb5 hgc5 HM4 HM5
            go_wp2
            refine HKb.out _ _ ?_
            clear HKb
            clear d0 f0 d1 f1
            generalize World.setCell _ _ _ = w6 at *
            go_wp2
            go_roundw
            case rel => exact ⟨k + 1, _, _, 3, bb, by go_num, hk4, HM6, HGb6, HGc6, HSt4⟩
            case measure => simp [intOf]; omega
      · have kf : (Mc.fin s t != 0) = true := by simpa using hf
        have HPZ : Hid (Mc.play s picks = (Mc.fin s t, 0, t)) := by
          have h1 := HPY.out
          have h2 := HGd.out.el
          rw [show 40001 - t.evs.length = (40000 - t.evs.length) + 1 by omega, run_fin hf] at h1
          exact h1
        clear hf
        go_wp2
        exact HR.out W2 t m2 _ 0 HM.out HGb.out HGc2.out HPZ.out
    · have k0 : (en == 0) = false := by simpa using hen
      have HPY := TW.hide hpy
      clear hen hpy HSt
      go_wp2
      exact HR.out wr t m en fl HM.out HGb.out HGc.out HPY.out
end LW
end Go.Proofs.Ytghpfhoajcgghaa
