/-
  What Begin of the document's machine makes.
-/
import Derived.Test.YtghpfhoajcgghaaWMem4
import Derived.Test.YtghpfhoajcgghaaPair
namespace Go.Proofs.Ytghpfhoajcgghaa
open Go.RowKit
set_option linter.unusedVariables false
set_option linter.unusedSimpArgs false
namespace LW
open Mc
/-- The first state as it grows. -/
def tB (r : Rn) (a a' b c d : Nat) : St := ⟨[r], List.replicate a [], List.replicate a' false, List.replicate b false, List.replicate c 0, List.replicate d 0, []⟩
theorem first_tB (s : Syst) : Mc.first s = tB ⟨0, 0, List.replicate 8 0, (pg s 0).isEmpty⟩ s.rooms.length s.rooms.length s.locks.toNat s.groups.toNat s.cells.toNat := by
  unfold Mc.first tB
  congr 1
  · exact List.map_const' ..
  · exact List.map_const' ..
theorem own_form13 {w : World} {B n s : Nat} {t : TypeId} {v : Value} {xs : List Value} (h : w.ownsRow B t s v n xs) : ∃ a n c, v = .slice a n c := by
  rcases h.2 with ⟨e, _⟩ | ⟨_, _, _, e, _⟩
  · exact ⟨_, _, _, e⟩
  · exact ⟨_, _, _, e⟩
theorem own_rowN {w : World} {B n s p : Nat} {t t' : TypeId} {fr : Nat × Nat} {v : Value} {xs : List Value} {cs cs' : Array Value} (h : w.ownsRow B t s v n xs) (hp : w.heap[p]? = some (.cells cs t' fr)) (ht : t ≠ t') : (w.setRow p cs').ownsRow B t s v n xs :=
  own_keepK h (fun b hb => setRow_other _ _ _ _ (by rintro rfl; exact own_neB h hp ht hb))
/-- A block of another machine is set. -/
theorem WB.setW {o W : World} {s : Syst} {pa ra : Option Addr} {t : St} {m : WV} {p : Nat} {fr : Nat × Nat} {cs cs' : Array Value} (h : WB o W s pa ra t m) (hp : W.heap[p]? = some (.cells cs 58 fr)) (hB : o.heap.size ≤ p) : WB o (W.setRow p cs') s pa ra t m :=
  ⟨below_setRow h.bl hB, h.sm, own_rowN h.rns hp (by decide), own_rowN h.hld hp (by decide), fun c hc => (h.qus c hc).keep (fun b hb => setRow_other _ _ _ _ (by rintro rfl; exact (h.qus c hc).nB hp (by decide) hb)), h.qB, own_rowN h.sht hp (by decide), own_rowN h.lck hp (by decide), own_rowN h.grp hp (by decide), own_rowN h.cel hp (by decide), own_rowN h.evs hp (by decide), h.ab, h.ai, h.aq, h.qq⟩
theorem sliinfo : (Try.prog.info? 24).map (fun i => (i.zero, i.size, i.bytes)) = some (some (.slice none 0 0), 1, 24) := by kernel_rfl
theorem boolinfo : (Try.prog.info? 4).map (fun i => (i.zero, i.size, i.bytes)) = some (some (.bool false), 1, 1) := by kernel_rfl
set_option maxRecDepth 100000 in
set_option maxHeartbeats 4000000 in
theorem rbegin (s : Syst) (pa : Option Addr) (pc : Nat) (ra : Option Addr) (rc : Nat) (w : World) (hS : SM w s pa ra) (ho : Mc.Ok s) :
    Calls Try.prog 18 #[.agg (syC s pa pc ra rc)] w fun e w' => ∃ m, e = .returned (.agg (wdC s pa pc ra rc m.rv m.hv m.sv m.lv m.gv m.cv m.ev)) ∧ WB w w' s pa ra (Mc.first s) m ∧ m.gb = none := by
  have hp1 := ho.p1
  obtain ⟨pb, po, rfl, A, K0, y1⟩ : ∃ pb po, pa = some ⟨pb, po, none⟩ ∧ ∃ A K0, w.cell? ⟨pb, po, none⟩ = some (.slice A (s.progs.getD 0 []).length K0) := by
    rcases hS.pr with h | ⟨b, off, e, hq⟩
    · rw [h] at hp1; simp at hp1
    · obtain ⟨A, K, h1, _⟩ := hq 0 (by omega)
      exact ⟨b, off, e, A, K, h1⟩
  have HSM := TW.hide hS
  have HOk := TW.hide ho
  have HWD : Hid (∀ m : WV, wdC s (some ⟨pb, po, none⟩) pc ra rc m.rv m.hv m.sv m.lv m.gv m.cv m.ev = #[.slice (some ⟨pb, po, none⟩) s.progs.length pc, .slice ra s.rooms.length rc, .int .i64 s.groups, .int .i64 s.locks, .int .i64 s.cells, m.rv, m.hv, m.sv, m.lv, m.gv, m.cv, m.ev]) := fun m => rfl
  have heb : (((s.progs.getD 0 []).length : Int) == 0) = (s.progs.getD 0 []).isEmpty := by
    cases s.progs.getD 0 [] with
    | nil => rfl
    | cons a l => simp; omega
  have HFi : Hid (Mc.first s = tB ⟨0, 0, List.replicate 8 0, (s.progs.getD 0 []).isEmpty⟩ s.rooms.length s.rooms.length s.locks.toNat s.groups.toNat s.cells.toNat) := first_tB s
  have hr1 := ho.r1
  have hg1 := ho.g1
  have hl1 := ho.l1
  have hc1 := ho.c1
  unfold syC
  clear hS ho
  generalize (s.progs.getD 0 []).isEmpty = eb at *
  generalize (s.progs.getD 0 []).length = pl at *
  have q0 : (0 : Int) < (s.progs.length : Int) := by omega
  have q0n : 0 < s.progs.length := by omega
  generalize hpn : s.progs.length = pn at q0 q0n ⊢
  generalize hrn : s.rooms.length = rn_ at HFi hr1 ⊢
  have HPN := TW.hide hpn
  have HRN := TW.hide hrn
  clear hpn hrn
  have hA : Below w.heap.size w ((w.alloc (.cells #[.slice (some ⟨pb, po, none⟩) pn pc, .slice ra rn_ rc, .int .i64 s.groups, .int .i64 s.locks, .int .i64 s.cells] 29)).alloc (.cells #[.slice none 0 0, .slice none 0 0, .int .i64 0, .int .i64 0, .int .i64 0, .slice none 0 0, .slice none 0 0, .slice none 0 0, .slice none 0 0, .slice none 0 0, .slice none 0 0, .slice none 0 0] 58)) := ((Below.refl _ _).alloc (Nat.le_refl _) _).alloc (by simp) _
  have NS : Hid (((w.alloc (.cells #[.slice (some ⟨pb, po, none⟩) pn pc, .slice ra rn_ rc, .int .i64 s.groups, .int .i64 s.locks, .int .i64 s.cells] 29)).alloc (.cells #[.slice none 0 0, .slice none 0 0, .int .i64 0, .int .i64 0, .int .i64 0, .slice none 0 0, .slice none 0 0, .slice none 0 0, .slice none 0 0, .slice none 0 0, .slice none 0 0, .slice none 0 0] 58)).heap[w.heap.size]? = some (.cells #[.slice (some ⟨pb, po, none⟩) pn pc, .slice ra rn_ rc, .int .i64 s.groups, .int .i64 s.locks, .int .i64 s.cells] 29 (0, 0))) := blk_alloc (heap_alloc_new w _)
  have N2 : Hid (((w.alloc (.cells #[.slice (some ⟨pb, po, none⟩) pn pc, .slice ra rn_ rc, .int .i64 s.groups, .int .i64 s.locks, .int .i64 s.cells] 29)).alloc (.cells #[.slice none 0 0, .slice none 0 0, .int .i64 0, .int .i64 0, .int .i64 0, .slice none 0 0, .slice none 0 0, .slice none 0 0, .slice none 0 0, .slice none 0 0, .slice none 0 0, .slice none 0 0] 58)).heap[w.heap.size + 1]? = some (.cells #[.slice none 0 0, .slice none 0 0, .int .i64 0, .int .i64 0, .int .i64 0, .slice none 0 0, .slice none 0 0, .slice none 0 0, .slice none 0 0, .slice none 0 0, .slice none 0 0, .slice none 0 0] 58 (0, 0))) := by
    have h1 := heap_alloc_new (w.alloc (.cells #[.slice (some ⟨pb, po, none⟩) pn pc, .slice ra rn_ rc, .int .i64 s.groups, .int .i64 s.locks, .int .i64 s.cells] 29)) (.cells #[.slice none 0 0, .slice none 0 0, .int .i64 0, .int .i64 0, .int .i64 0, .slice none 0 0, .slice none 0 0, .slice none 0 0, .slice none 0 0, .slice none 0 0, .slice none 0 0, .slice none 0 0] 58)
    have h2 : (w.alloc (.cells #[.slice (some ⟨pb, po, none⟩) pn pc, .slice ra rn_ rc, .int .i64 s.groups, .int .i64 s.locks, .int .i64 s.cells] 29)).heap.size = w.heap.size + 1 := by simp
    rw [h2] at h1
    exact h1
  go_enter Try.func18, Try.ntmps18
  refine wp_seq_k fun K hK => ?_
  have HK := TW.hide hK
  clear hK
  go_wp2
  refine HK.out _ _ ?_
  clear HK K
  have y1 := keepC hA y1
  have HBV := TW.hide hA
  clear hA
  generalize World.alloc _ _ = V at *
  have hb2 := blk_lt N2.out
  generalize hB2 : w.heap.size + 1 = b2 at *
  have s0 : V.cell? ⟨w.heap.size, 0, none⟩ = some (.slice (some ⟨pb, po, none⟩) pn pc) := blk_cell NS.out rfl
  refine wp_seq_k fun K1 hK1 => ?_
  have HR1 : Hid (∀ {u0 u4 u5 u6 u7 u8 u9 u10 u11 u12 u13 u14 u15 u16 u17 u18 u19 u20 u21 u22 u23 u24 u25 u26 u27 u28 u29 u30 u31 u32 u33 u34 u35 u36 u37 u38 u39 u40 u41 u42 u43 u44 u45 u46 u47 u48 u49 u50 u51 u52 u53 u54 u55 u56 u57 u58 u59 u60 u61 u62 u63 u64 u65 u66 u67 u68 : Value} (gr g3 : Nat) (W : World), Below V.heap.size V W → W.heap[gr]? = some (.cells #[.int .i64 0, .int .i64 0, .int .i64 0, .int .i64 0, .int .i64 0, .int .i64 0, .int .i64 0, .int .i64 0, .int .i64 0, .int .i64 0, .bool eb] 86 (0, 0)) → W.heap[g3]? = some (.cells #[.slice (some ⟨pb, po, none⟩) pn pc, .slice ra rn_ rc, .int .i64 s.groups, .int .i64 s.locks, .int .i64 s.cells, .slice (some ⟨gr, 0, none⟩) 1 1, .slice none 0 0, .slice none 0 0, .slice none 0 0, .slice none 0 0, .slice none 0 0, .slice none 0 0] 58 (0, 0)) → V.heap.size ≤ gr → V.heap.size ≤ g3 → K1 { tmps := #[u0, .pointer (some ⟨w.heap.size, 0, none⟩), .pointer (some ⟨b2, 0, none⟩), .pointer (some ⟨g3, 0, none⟩), u4, u5, u6, u7, u8, u9, u10, u11, u12, u13, u14, u15, u16, u17, u18, u19, u20, u21, u22, u23, u24, u25, u26, u27, u28, u29, u30, u31, u32, u33, u34, u35, u36, u37, u38, u39, u40, u41, u42, u43, u44, u45, u46, u47, u48, u49, u50, u51, u52, u53, u54, u55, u56, u57, u58, u59, u60, u61, u62, u63, u64, u65, u66, u67, u68], defers := [] } W) := by
    intro u0 u4 u5 u6 u7 u8 u9 u10 u11 u12 u13 u14 u15 u16 u17 u18 u19 u20 u21 u22 u23 u24 u25 u26 u27 u28 u29 u30 u31 u32 u33 u34 u35 u36 u37 u38 u39 u40 u41 u42 u43 u44 u45 u46 u47 u48 u49 u50 u51 u52 u53 u54 u55 u56 u57 u58 u59 u60 u61 u62 u63 u64 u65 u66 u67 u68 gr g3 W hW hgr hg3 l1 l2
    refine hK1 _ _ ?_
    clear hK1 K1
    have HM : Hid (WM w W g3 s (some ⟨pb, po, none⟩) pc ra rc (tB ⟨0, 0, List.replicate 8 0, eb⟩ 0 0 0 0 0) (⟨.slice (some ⟨gr, 0, none⟩) 1 1, .slice none 0 0, .slice none 0 0, .slice none 0 0, .slice none 0 0, .slice none 0 0, .slice none 0 0, [], none, #[]⟩)) := by
      have e1 : wdC s (some ⟨pb, po, none⟩) pc ra rc (.slice (some ⟨gr, 0, none⟩) 1 1) (.slice none 0 0) (.slice none 0 0) (.slice none 0 0) (.slice none 0 0) (.slice none 0 0) (.slice none 0 0) = #[.slice (some ⟨pb, po, none⟩) pn pc, .slice ra rn_ rc, .int .i64 s.groups, .int .i64 s.locks, .int .i64 s.cells, .slice (some ⟨gr, 0, none⟩) 1 1, .slice none 0 0, .slice none 0 0, .slice none 0 0, .slice none 0 0, .slice none 0 0, .slice none 0 0] := by
        unfold wdC
        rw [HPN.out, HRN.out]
      have hw0 := HBV.out.size
      refine ⟨HBV.out.trans (hW.mono hw0), HSM.out, by omega, by rw [e1]; exact hg3, ⟨rfl, .inr ⟨gr, 1, _, rfl, by omega, hgr, Nat.le_refl _, by unfold maxLen; omega, rfl, rfl⟩⟩, ⟨rfl, .inl ⟨rfl, rfl⟩⟩, fun c hc => by simp [tB] at hc, fun c b hb => by simp [qn, Value.ownBlock] at hb, ⟨rfl, .inl ⟨rfl, rfl⟩⟩, ⟨rfl, .inl ⟨rfl, rfl⟩⟩, ⟨rfl, .inl ⟨rfl, rfl⟩⟩, ⟨rfl, .inl ⟨rfl, rfl⟩⟩, ⟨rfl, .inl ⟨rfl, rfl⟩⟩, fun b hb => by simp [Value.ownBlock] at hb, fun b hb => by simp [Value.ownBlock] at hb, fun c b hb => by simp [qn, Value.ownBlock] at hb, fun c d b _ hb => by simp [qn, Value.ownBlock] at hb, fun p hp => by cases hp⟩
    have HS := TW.hide (blk_keep NS.out hW)
    have HZ := TW.hide (blk_keep N2.out hW)
    have hbsV := blk_lt NS.out
    have hn1 : w.heap.size ≠ g3 := by omega
    have hn2 : b2 ≠ g3 := by omega
    clear hW hgr hg3 NS N2 s0 y1 HBV
    go_wp2
    go_loopw [4] (fun i wr => ∃ (x : Nat) (m : WV), x ≤ rn_ ∧ i = .int .i64 (x : Int) ∧ Hid (WM w wr g3 s (some ⟨pb, po, none⟩) pc ra rc (tB ⟨0, 0, List.replicate 8 0, eb⟩ x x 0 0 0) (m)) ∧ Hid (wr.heap[w.heap.size]? = some (.cells #[.slice (some ⟨pb, po, none⟩) pn pc, .slice ra rn_ rc, .int .i64 s.groups, .int .i64 s.locks, .int .i64 s.cells] 29 (0, 0))) ∧ Hid (wr.heap[b2]? = some (.cells #[.slice none 0 0, .slice none 0 0, .int .i64 0, .int .i64 0, .int .i64 0, .slice none 0 0, .slice none 0 0, .slice none 0 0, .slice none 0 0, .slice none 0 0, .slice none 0 0, .slice none 0 0] 58 (0, 0)))) (fun i _ => rn_ - (intOf i).toNat)
    case atStart => exact ⟨0, _, Nat.zero_le _, rfl, HM, HS, HZ⟩
    case round =>
      clear HM HS HZ
      obtain ⟨x, m1, hx, rfl, HM, HS, HZ⟩ := hrel
      have s1 : wr.cell? ⟨w.heap.size, 1, none⟩ = some (.slice ra rn_ rc) := blk_cell HS.out rfl
      by_cases hlt : x < rn_
      · have hlt' : (x : Int) < (rn_ : Int) := by omega
        obtain ⟨wo, hwo⟩ : ∃ wo : World, wo = wr := ⟨_, rfl⟩
        subst hwo
        refine wp_seq_k fun Ka hKa => ?_
        have HKa := TW.hide hKa
        clear hKa
        go_wp2
        refine HKa.out _ _ ?_
        clear HKa
        refine wp_seq_k fun Kb hKb => ?_
        have HKb := TW.hide hKb
        clear hKb
        refine wp_block ?_
        refine wp_seq_k fun Kc hKc => ?_
        have HKc := TW.hide hKc
        clear hKc
        obtain ⟨ii, hi0, hi1, hi2, hi3⟩ := info_parts' sliinfo
        have c6 := HM.out.c6
        have HF : Hid (∀ (v5 : Value) (w5 : World), w5.ownsRow w.heap.size 24 1 v5 ((tB ⟨0, 0, List.replicate 8 0, eb⟩ x x 0 0 0).held.length + 1) (m1.qs ++ [.slice none 0 0]) → (wo.alloc (.cells #[.slice none 0 0] 24)).grownBy w5 m1.hv.ownBlock → (v5.ownBlock = m1.hv.ownBlock ∨ v5.ownBlock = some (wo.alloc (.cells #[.slice none 0 0] 24)).heap.size) → (∃ a n c, v5 = .slice a n c) ∧ w5.cell? ⟨g3, 6, none⟩ = some m1.hv ∧ w5.frozen? ⟨g3, 6, none⟩ = false ∧ WM w (w5.setCell ⟨g3, 6, none⟩ v5) g3 s (some ⟨pb, po, none⟩) pc ra rc (tB ⟨0, 0, List.replicate 8 0, eb⟩ (x + 1) x 0 0 0) ({ m1 with hv := v5, qs := m1.qs ++ [.slice none 0 0] }) ∧ (w5.setCell ⟨g3, 6, none⟩ v5).heap[w.heap.size]? = some (.cells #[.slice (some ⟨pb, po, none⟩) pn pc, .slice ra rn_ rc, .int .i64 s.groups, .int .i64 s.locks, .int .i64 s.cells] 29 (0, 0)) ∧ (w5.setCell ⟨g3, 6, none⟩ v5).heap[b2]? = some (.cells #[.slice none 0 0, .slice none 0 0, .int .i64 0, .int .i64 0, .int .i64 0, .slice none 0 0, .slice none 0 0, .slice none 0 0, .slice none 0 0, .slice none 0 0, .slice none 0 0, .slice none 0 0] 58 (0, 0)) ∧ (w5.setCell ⟨g3, 6, none⟩ v5).cell? ⟨g3, 7, none⟩ = some m1.sv) := fun v5 w5 ho hg h5 => by
          have hA := (Below.refl wo.heap.size wo).alloc (Nat.le_refl _) (.cells #[.slice none 0 0] 24)
          have h1 := HM.out.below hA
          have hbg := hg.block g3 (blk_lt h1.blk) (fun e => own_neB h1.hld h1.blk (by decide) e.symm)
          have hS1 := blk_keep HS.out hA
          have hZ1 := blk_keep HZ.out hA
          have hbs := hg.block w.heap.size (blk_lt hS1) (fun e => own_neB h1.hld hS1 (by decide) e.symm)
          have hbz := hg.block b2 (blk_lt hZ1) (fun e => own_neB h1.hld hZ1 (by decide) e.symm)
          refine ⟨?_, by rw [cell_of hbg]; exact h1.c6, by simp [World.frozen?, hbg, h1.blk], ?_, ?_, ?_, ?_⟩
          · rcases ho.2 with ⟨e, _⟩ | ⟨_, _, _, e, _⟩
            · exact ⟨_, _, _, e⟩
            · exact ⟨_, _, _, e⟩
          · have h2 := h1.addHd v5 ho hg
            have e : ({ tB ⟨0, 0, List.replicate 8 0, eb⟩ x x 0 0 0 with held := (tB ⟨0, 0, List.replicate 8 0, eb⟩ x x 0 0 0).held ++ [[]] } : St) = tB ⟨0, 0, List.replicate 8 0, eb⟩ (x + 1) x 0 0 0 := by simp [tB, List.replicate_succ']
            rw [← e]
            exact h2
          · rw [Below.heap_setCell _ _ _ _ hn1, hbs]
            exact hS1
          · rw [Below.heap_setCell _ _ _ _ hn2, hbz]
            exact hZ1
          · exact (h1.addHd v5 ho hg).c7
        go_wp2_with (at_builtin; refine wpList_append_own_at _ rfl _ _ 55 rfl w.heap.size 24 ii _ 1 24 Try.underlying55 hi0 hi1 hi2 hi3 rfl (by decide) m1.hv (tB ⟨0, 0, List.replicate 8 0, eb⟩ x x 0 0 0).held.length m1.qs rfl (HM.out.hld.alloc _) ⟨wo.heap.size, 0, none⟩ 1 1 [.slice none 0 0] rfl rfl (cell_one_new _ _ _) (by simp [Value.oneCell']) (by unfold maxLen; simp [tB]; omega) (by simp [tB]; omega) (by have := HM.out.bl.size; simp; omega) ?_; (intro v5 w5 ho5 hg5 _ h5_); obtain ⟨⟨va6, vn6, vc6, rfl⟩, cz, fz, hM5, hS5, hZ5, cy⟩ := HF.out v5 w5 ho5 hg5 h5_; have HM5 := TW.hide hM5; have HS5 := TW.hide hS5; have HZ5 := TW.hide hZ5; clear ho5 hg5 h5_ hM5 hS5 hZ5)
        clear HM HS HZ HF cz fz c6 hi0 hi1 hi2 hi3
        have HM := HM5
        have HS := HS5
        have HZ := HZ5
        clear HM5 HS5 HZ5
        generalize World.setCell _ _ _ = Z1 at *
        refine HKc.out _ _ ?_
        clear HKc
        obtain ⟨ii, hi0, hi1, hi2, hi3⟩ := info_parts' boolinfo
        have c7 := HM.out.c7
        have HF : Hid (∀ (v5 : Value) (w5 : World), w5.ownsRow w.heap.size 4 1 v5 ((tB ⟨0, 0, List.replicate 8 0, eb⟩ (x + 1) x 0 0 0).shut.length + 1) (((tB ⟨0, 0, List.replicate 8 0, eb⟩ (x + 1) x 0 0 0).shut.map Value.bool) ++ [.bool false]) → (Z1.alloc (.cells #[.bool false] 4)).grownBy w5 ({ m1 with hv := (.slice va6 vn6 vc6), qs := m1.qs ++ [.slice none 0 0] } : WV).sv.ownBlock → (v5.ownBlock = ({ m1 with hv := (.slice va6 vn6 vc6), qs := m1.qs ++ [.slice none 0 0] } : WV).sv.ownBlock ∨ v5.ownBlock = some (Z1.alloc (.cells #[.bool false] 4)).heap.size) → (∃ a n c, v5 = .slice a n c) ∧ w5.cell? ⟨g3, 7, none⟩ = some ({ m1 with hv := (.slice va6 vn6 vc6), qs := m1.qs ++ [.slice none 0 0] } : WV).sv ∧ w5.frozen? ⟨g3, 7, none⟩ = false ∧ WM w (w5.setCell ⟨g3, 7, none⟩ v5) g3 s (some ⟨pb, po, none⟩) pc ra rc (tB ⟨0, 0, List.replicate 8 0, eb⟩ (x + 1) (x + 1) 0 0 0) ({ ({ m1 with hv := (.slice va6 vn6 vc6), qs := m1.qs ++ [.slice none 0 0] } : WV) with sv := v5 }) ∧ (w5.setCell ⟨g3, 7, none⟩ v5).heap[w.heap.size]? = some (.cells #[.slice (some ⟨pb, po, none⟩) pn pc, .slice ra rn_ rc, .int .i64 s.groups, .int .i64 s.locks, .int .i64 s.cells] 29 (0, 0)) ∧ (w5.setCell ⟨g3, 7, none⟩ v5).heap[b2]? = some (.cells #[.slice none 0 0, .slice none 0 0, .int .i64 0, .int .i64 0, .int .i64 0, .slice none 0 0, .slice none 0 0, .slice none 0 0, .slice none 0 0, .slice none 0 0, .slice none 0 0, .slice none 0 0] 58 (0, 0))) := fun v5 w5 ho hg h5 => by
          have hA := (Below.refl Z1.heap.size Z1).alloc (Nat.le_refl _) (.cells #[.bool false] 4)
          have h1 := HM.out.below hA
          have hbg := hg.block g3 (blk_lt h1.blk) (fun e => own_neB h1.sht h1.blk (by decide) e.symm)
          have hS1 := blk_keep HS.out hA
          have hZ1 := blk_keep HZ.out hA
          have hbs := hg.block w.heap.size (blk_lt hS1) (fun e => own_neB h1.sht hS1 (by decide) e.symm)
          have hbz := hg.block b2 (blk_lt hZ1) (fun e => own_neB h1.sht hZ1 (by decide) e.symm)
          refine ⟨?_, by rw [cell_of hbg]; exact h1.c7, by simp [World.frozen?, hbg, h1.blk], ?_, ?_, ?_⟩
          · rcases ho.2 with ⟨e, _⟩ | ⟨_, _, _, e, _⟩
            · exact ⟨_, _, _, e⟩
            · exact ⟨_, _, _, e⟩
          · have h2 := h1.addSh v5 ho hg h5
            have e : ({ tB ⟨0, 0, List.replicate 8 0, eb⟩ (x + 1) x 0 0 0 with shut := (tB ⟨0, 0, List.replicate 8 0, eb⟩ (x + 1) x 0 0 0).shut ++ [false] } : St) = tB ⟨0, 0, List.replicate 8 0, eb⟩ (x + 1) (x + 1) 0 0 0 := by simp [tB, List.replicate_succ']
            rw [← e]
            exact h2
          · rw [Below.heap_setCell _ _ _ _ hn1, hbs]
            exact hS1
          · rw [Below.heap_setCell _ _ _ _ hn2, hbz]
            exact hZ1
        go_wp2_with (at_builtin; refine wpList_append_own_at _ rfl _ _ 56 rfl w.heap.size 4 ii _ 1 1 Try.underlying56 hi0 hi1 hi2 hi3 rfl (by decide) ({ m1 with hv := (.slice va6 vn6 vc6), qs := m1.qs ++ [.slice none 0 0] } : WV).sv (tB ⟨0, 0, List.replicate 8 0, eb⟩ (x + 1) x 0 0 0).shut.length ((tB ⟨0, 0, List.replicate 8 0, eb⟩ (x + 1) x 0 0 0).shut.map Value.bool) rfl (HM.out.sht.alloc _) ⟨Z1.heap.size, 0, none⟩ 1 1 [.bool false] rfl rfl (cell_one_new _ _ _) (by simp [Value.oneCell']) (by unfold maxLen; simp [tB]; omega) (by simp [tB]; omega) (by have := HM.out.bl.size; simp; omega) ?_; (intro v5 w5 ho5 hg5 _ h5_); obtain ⟨⟨va7, vn7, vc7, rfl⟩, cz, fz, hM5, hS5, hZ5⟩ := HF.out v5 w5 ho5 hg5 h5_; have HM5 := TW.hide hM5; have HS5 := TW.hide hS5; have HZ5 := TW.hide hZ5; clear ho5 hg5 h5_ hM5 hS5 hZ5)
        clear HM HS HZ HF cz fz c7 hi0 hi1 hi2 hi3
        have HM := HM5
        have HS := HS5
        have HZ := HZ5
        clear HM5 HS5 HZ5
        generalize World.setCell _ _ _ = Z2 at *
        go_wp2
        refine HKb.out _ _ ?_
        clear HKb
        go_wp2
        go_roundw
        case rel => exact ⟨x + 1, _, hlt, by go_num, HM, HS, HZ⟩
        case measure => simp [intOf]; omega
      · have hlt' : ¬ (x : Int) < (rn_ : Int) := by omega
        have hxe : rn_ = x := by omega
        subst hxe
        go_wp2
        go_loopw [5] (fun i wr => ∃ (x : Nat) (m : WV), x ≤ s.locks.toNat ∧ i = .int .i64 (x : Int) ∧ Hid (WM w wr g3 s (some ⟨pb, po, none⟩) pc ra rc (tB ⟨0, 0, List.replicate 8 0, eb⟩ rn_ rn_ x 0 0) (m)) ∧ Hid (wr.heap[w.heap.size]? = some (.cells #[.slice (some ⟨pb, po, none⟩) pn pc, .slice ra rn_ rc, .int .i64 s.groups, .int .i64 s.locks, .int .i64 s.cells] 29 (0, 0))) ∧ Hid (wr.heap[b2]? = some (.cells #[.slice none 0 0, .slice none 0 0, .int .i64 0, .int .i64 0, .int .i64 0, .slice none 0 0, .slice none 0 0, .slice none 0 0, .slice none 0 0, .slice none 0 0, .slice none 0 0, .slice none 0 0] 58 (0, 0)))) (fun i _ => s.locks.toNat - (intOf i).toNat)
        case atStart => exact ⟨0, _, Nat.zero_le _, rfl, HM, HS, HZ⟩
        case round =>
          clear HM HS HZ
          obtain ⟨x, m2, hx, rfl, HM, HS, HZ⟩ := hrel
          have s3 : wr.cell? ⟨w.heap.size, 3, none⟩ = some (.int .i64 s.locks) := blk_cell HS.out rfl
          by_cases hlt : x < s.locks.toNat
          · have hlt' : (x : Int) < s.locks := by omega
            obtain ⟨wo, hwo⟩ : ∃ wo : World, wo = wr := ⟨_, rfl⟩
            subst hwo
            obtain ⟨ii, hi0, hi1, hi2, hi3⟩ := info_parts' boolinfo
            have c8 := HM.out.c8
            have HF : Hid (∀ (v5 : Value) (w5 : World), w5.ownsRow w.heap.size 4 1 v5 ((tB ⟨0, 0, List.replicate 8 0, eb⟩ rn_ rn_ x 0 0).locked.length + 1) (((tB ⟨0, 0, List.replicate 8 0, eb⟩ rn_ rn_ x 0 0).locked.map Value.bool) ++ [.bool false]) → (wo.alloc (.cells #[.bool false] 4)).grownBy w5 m2.lv.ownBlock → (v5.ownBlock = m2.lv.ownBlock ∨ v5.ownBlock = some (wo.alloc (.cells #[.bool false] 4)).heap.size) → (∃ a n c, v5 = .slice a n c) ∧ w5.cell? ⟨g3, 8, none⟩ = some m2.lv ∧ w5.frozen? ⟨g3, 8, none⟩ = false ∧ WM w (w5.setCell ⟨g3, 8, none⟩ v5) g3 s (some ⟨pb, po, none⟩) pc ra rc (tB ⟨0, 0, List.replicate 8 0, eb⟩ rn_ rn_ (x + 1) 0 0) ({ m2 with lv := v5 }) ∧ (w5.setCell ⟨g3, 8, none⟩ v5).heap[w.heap.size]? = some (.cells #[.slice (some ⟨pb, po, none⟩) pn pc, .slice ra rn_ rc, .int .i64 s.groups, .int .i64 s.locks, .int .i64 s.cells] 29 (0, 0)) ∧ (w5.setCell ⟨g3, 8, none⟩ v5).heap[b2]? = some (.cells #[.slice none 0 0, .slice none 0 0, .int .i64 0, .int .i64 0, .int .i64 0, .slice none 0 0, .slice none 0 0, .slice none 0 0, .slice none 0 0, .slice none 0 0, .slice none 0 0, .slice none 0 0] 58 (0, 0))) := fun v5 w5 ho hg h5 => by
              have hA := (Below.refl wo.heap.size wo).alloc (Nat.le_refl _) (.cells #[.bool false] 4)
              have h1 := HM.out.below hA
              have hbg := hg.block g3 (blk_lt h1.blk) (fun e => own_neB h1.lck h1.blk (by decide) e.symm)
              have hS1 := blk_keep HS.out hA
              have hZ1 := blk_keep HZ.out hA
              have hbs := hg.block w.heap.size (blk_lt hS1) (fun e => own_neB h1.lck hS1 (by decide) e.symm)
              have hbz := hg.block b2 (blk_lt hZ1) (fun e => own_neB h1.lck hZ1 (by decide) e.symm)
              refine ⟨?_, by rw [cell_of hbg]; exact h1.c8, by simp [World.frozen?, hbg, h1.blk], ?_, ?_, ?_⟩
              · rcases ho.2 with ⟨e, _⟩ | ⟨_, _, _, e, _⟩
                · exact ⟨_, _, _, e⟩
                · exact ⟨_, _, _, e⟩
              · have h2 := h1.addLk v5 ho hg h5
                have e : ({ tB ⟨0, 0, List.replicate 8 0, eb⟩ rn_ rn_ x 0 0 with locked := (tB ⟨0, 0, List.replicate 8 0, eb⟩ rn_ rn_ x 0 0).locked ++ [false] } : St) = tB ⟨0, 0, List.replicate 8 0, eb⟩ rn_ rn_ (x + 1) 0 0 := by simp [tB, List.replicate_succ']
                rw [← e]
                exact h2
              · rw [Below.heap_setCell _ _ _ _ hn1, hbs]
                exact hS1
              · rw [Below.heap_setCell _ _ _ _ hn2, hbz]
                exact hZ1
            go_wp2_with (at_builtin; refine wpList_append_own_at _ rfl _ _ 56 rfl w.heap.size 4 ii _ 1 1 Try.underlying56 hi0 hi1 hi2 hi3 rfl (by decide) m2.lv (tB ⟨0, 0, List.replicate 8 0, eb⟩ rn_ rn_ x 0 0).locked.length ((tB ⟨0, 0, List.replicate 8 0, eb⟩ rn_ rn_ x 0 0).locked.map Value.bool) rfl (HM.out.lck.alloc _) ⟨wo.heap.size, 0, none⟩ 1 1 [.bool false] rfl rfl (cell_one_new _ _ _) (by simp [Value.oneCell']) (by unfold maxLen; simp [tB]; omega) (by simp [tB]; omega) (by have := HM.out.bl.size; simp; omega) ?_; (intro v5 w5 ho5 hg5 _ h5_); obtain ⟨⟨va8, vn8, vc8, rfl⟩, cz, fz, hM5, hS5, hZ5⟩ := HF.out v5 w5 ho5 hg5 h5_; have HM5 := TW.hide hM5; have HS5 := TW.hide hS5; have HZ5 := TW.hide hZ5; clear ho5 hg5 h5_ hM5 hS5 hZ5)
            clear HM HS HZ HF cz fz c8 hi0 hi1 hi2 hi3
            have HM := HM5
            have HS := HS5
            have HZ := HZ5
            clear HM5 HS5 HZ5
            generalize World.setCell _ _ _ = Z2 at *
            go_wp2
            go_roundw
            case rel => exact ⟨x + 1, _, hlt, by go_num, HM, HS, HZ⟩
            case measure => simp [intOf]; omega
          · have hlt' : ¬ (x : Int) < s.locks := by omega
            have hxe : s.locks.toNat = x := by omega
            subst hxe
            go_wp2
            go_loopw [6] (fun i wr => ∃ (x : Nat) (m : WV), x ≤ s.groups.toNat ∧ i = .int .i64 (x : Int) ∧ Hid (WM w wr g3 s (some ⟨pb, po, none⟩) pc ra rc (tB ⟨0, 0, List.replicate 8 0, eb⟩ rn_ rn_ s.locks.toNat x 0) (m)) ∧ Hid (wr.heap[w.heap.size]? = some (.cells #[.slice (some ⟨pb, po, none⟩) pn pc, .slice ra rn_ rc, .int .i64 s.groups, .int .i64 s.locks, .int .i64 s.cells] 29 (0, 0))) ∧ Hid (wr.heap[b2]? = some (.cells #[.slice none 0 0, .slice none 0 0, .int .i64 0, .int .i64 0, .int .i64 0, .slice none 0 0, .slice none 0 0, .slice none 0 0, .slice none 0 0, .slice none 0 0, .slice none 0 0, .slice none 0 0] 58 (0, 0)))) (fun i _ => s.groups.toNat - (intOf i).toNat)
            case atStart => exact ⟨0, _, Nat.zero_le _, rfl, HM, HS, HZ⟩
            case round =>
              clear HM HS HZ
              obtain ⟨x, m3, hx, rfl, HM, HS, HZ⟩ := hrel
              have s2 : wr.cell? ⟨w.heap.size, 2, none⟩ = some (.int .i64 s.groups) := blk_cell HS.out rfl
              by_cases hlt : x < s.groups.toNat
              · have hlt' : (x : Int) < s.groups := by omega
                obtain ⟨wo, hwo⟩ : ∃ wo : World, wo = wr := ⟨_, rfl⟩
                subst hwo
                obtain ⟨ii, hi0, hi1, hi2, hi3⟩ := info_parts' intinfo
                have c9 := HM.out.c9
                have HF : Hid (∀ (v5 : Value) (w5 : World), w5.ownsRow w.heap.size 3 1 v5 ((tB ⟨0, 0, List.replicate 8 0, eb⟩ rn_ rn_ s.locks.toNat x 0).groups.length + 1) (((tB ⟨0, 0, List.replicate 8 0, eb⟩ rn_ rn_ s.locks.toNat x 0).groups.map (Value.int .i64)) ++ [.int .i64 0]) → (wo.alloc (.cells #[.int .i64 0] 3)).grownBy w5 m3.gv.ownBlock → (v5.ownBlock = m3.gv.ownBlock ∨ v5.ownBlock = some (wo.alloc (.cells #[.int .i64 0] 3)).heap.size) → (∃ a n c, v5 = .slice a n c) ∧ w5.cell? ⟨g3, 9, none⟩ = some m3.gv ∧ w5.frozen? ⟨g3, 9, none⟩ = false ∧ WM w (w5.setCell ⟨g3, 9, none⟩ v5) g3 s (some ⟨pb, po, none⟩) pc ra rc (tB ⟨0, 0, List.replicate 8 0, eb⟩ rn_ rn_ s.locks.toNat (x + 1) 0) ({ m3 with gv := v5 }) ∧ (w5.setCell ⟨g3, 9, none⟩ v5).heap[w.heap.size]? = some (.cells #[.slice (some ⟨pb, po, none⟩) pn pc, .slice ra rn_ rc, .int .i64 s.groups, .int .i64 s.locks, .int .i64 s.cells] 29 (0, 0)) ∧ (w5.setCell ⟨g3, 9, none⟩ v5).heap[b2]? = some (.cells #[.slice none 0 0, .slice none 0 0, .int .i64 0, .int .i64 0, .int .i64 0, .slice none 0 0, .slice none 0 0, .slice none 0 0, .slice none 0 0, .slice none 0 0, .slice none 0 0, .slice none 0 0] 58 (0, 0))) := fun v5 w5 ho hg h5 => by
                  have hA := (Below.refl wo.heap.size wo).alloc (Nat.le_refl _) (.cells #[.int .i64 0] 3)
                  have h1 := HM.out.below hA
                  have hbg := hg.block g3 (blk_lt h1.blk) (fun e => own_neB h1.grp h1.blk (by decide) e.symm)
                  have hS1 := blk_keep HS.out hA
                  have hZ1 := blk_keep HZ.out hA
                  have hbs := hg.block w.heap.size (blk_lt hS1) (fun e => own_neB h1.grp hS1 (by decide) e.symm)
                  have hbz := hg.block b2 (blk_lt hZ1) (fun e => own_neB h1.grp hZ1 (by decide) e.symm)
                  refine ⟨?_, by rw [cell_of hbg]; exact h1.c9, by simp [World.frozen?, hbg, h1.blk], ?_, ?_, ?_⟩
                  · rcases ho.2 with ⟨e, _⟩ | ⟨_, _, _, e, _⟩
                    · exact ⟨_, _, _, e⟩
                    · exact ⟨_, _, _, e⟩
                  · have h2 := h1.addGr v5 ho hg h5
                    have e : ({ tB ⟨0, 0, List.replicate 8 0, eb⟩ rn_ rn_ s.locks.toNat x 0 with groups := (tB ⟨0, 0, List.replicate 8 0, eb⟩ rn_ rn_ s.locks.toNat x 0).groups ++ [0] } : St) = tB ⟨0, 0, List.replicate 8 0, eb⟩ rn_ rn_ s.locks.toNat (x + 1) 0 := by simp [tB, List.replicate_succ']
                    rw [← e]
                    exact h2
                  · rw [Below.heap_setCell _ _ _ _ hn1, hbs]
                    exact hS1
                  · rw [Below.heap_setCell _ _ _ _ hn2, hbz]
                    exact hZ1
                go_wp2_with (at_builtin; refine wpList_append_own_at _ rfl _ _ 24 rfl w.heap.size 3 ii _ 1 8 Try.underlying24 hi0 hi1 hi2 hi3 rfl (by decide) m3.gv (tB ⟨0, 0, List.replicate 8 0, eb⟩ rn_ rn_ s.locks.toNat x 0).groups.length ((tB ⟨0, 0, List.replicate 8 0, eb⟩ rn_ rn_ s.locks.toNat x 0).groups.map (Value.int .i64)) rfl (HM.out.grp.alloc _) ⟨wo.heap.size, 0, none⟩ 1 1 [.int .i64 0] rfl rfl (cell_one_new _ _ _) (by simp [Value.oneCell']) (by unfold maxLen; simp [tB]; omega) (by simp [tB]; omega) (by have := HM.out.bl.size; simp; omega) ?_; (intro v5 w5 ho5 hg5 _ h5_); obtain ⟨⟨va9, vn9, vc9, rfl⟩, cz, fz, hM5, hS5, hZ5⟩ := HF.out v5 w5 ho5 hg5 h5_; have HM5 := TW.hide hM5; have HS5 := TW.hide hS5; have HZ5 := TW.hide hZ5; clear ho5 hg5 h5_ hM5 hS5 hZ5)
                clear HM HS HZ HF cz fz c9 hi0 hi1 hi2 hi3
                have HM := HM5
                have HS := HS5
                have HZ := HZ5
                clear HM5 HS5 HZ5
                generalize World.setCell _ _ _ = Z2 at *
                go_wp2
                go_roundw
                case rel => exact ⟨x + 1, _, hlt, by go_num, HM, HS, HZ⟩
                case measure => simp [intOf]; omega
              · have hlt' : ¬ (x : Int) < s.groups := by omega
                have hxe : s.groups.toNat = x := by omega
                subst hxe
                go_wp2
                go_loopw [7] (fun i wr => ∃ (x : Nat) (m : WV), x ≤ s.cells.toNat ∧ i = .int .i64 (x : Int) ∧ Hid (WM w wr g3 s (some ⟨pb, po, none⟩) pc ra rc (tB ⟨0, 0, List.replicate 8 0, eb⟩ rn_ rn_ s.locks.toNat s.groups.toNat x) (m)) ∧ Hid (wr.heap[w.heap.size]? = some (.cells #[.slice (some ⟨pb, po, none⟩) pn pc, .slice ra rn_ rc, .int .i64 s.groups, .int .i64 s.locks, .int .i64 s.cells] 29 (0, 0))) ∧ Hid (wr.heap[b2]? = some (.cells #[.slice none 0 0, .slice none 0 0, .int .i64 0, .int .i64 0, .int .i64 0, .slice none 0 0, .slice none 0 0, .slice none 0 0, .slice none 0 0, .slice none 0 0, .slice none 0 0, .slice none 0 0] 58 (0, 0)))) (fun i _ => s.cells.toNat - (intOf i).toNat)
                case atStart => exact ⟨0, _, Nat.zero_le _, rfl, HM, HS, HZ⟩
                case round =>
                  clear HM HS HZ
                  obtain ⟨x, m4, hx, rfl, HM, HS, HZ⟩ := hrel
                  have s4 : wr.cell? ⟨w.heap.size, 4, none⟩ = some (.int .i64 s.cells) := blk_cell HS.out rfl
                  by_cases hlt : x < s.cells.toNat
                  · have hlt' : (x : Int) < s.cells := by omega
                    obtain ⟨wo, hwo⟩ : ∃ wo : World, wo = wr := ⟨_, rfl⟩
                    subst hwo
                    obtain ⟨ii, hi0, hi1, hi2, hi3⟩ := info_parts' intinfo
                    have c10 := HM.out.c10
                    have HF : Hid (∀ (v5 : Value) (w5 : World), w5.ownsRow w.heap.size 3 1 v5 ((tB ⟨0, 0, List.replicate 8 0, eb⟩ rn_ rn_ s.locks.toNat s.groups.toNat x).cells.length + 1) (((tB ⟨0, 0, List.replicate 8 0, eb⟩ rn_ rn_ s.locks.toNat s.groups.toNat x).cells.map (Value.int .i64)) ++ [.int .i64 0]) → (wo.alloc (.cells #[.int .i64 0] 3)).grownBy w5 m4.cv.ownBlock → (v5.ownBlock = m4.cv.ownBlock ∨ v5.ownBlock = some (wo.alloc (.cells #[.int .i64 0] 3)).heap.size) → (∃ a n c, v5 = .slice a n c) ∧ w5.cell? ⟨g3, 10, none⟩ = some m4.cv ∧ w5.frozen? ⟨g3, 10, none⟩ = false ∧ WM w (w5.setCell ⟨g3, 10, none⟩ v5) g3 s (some ⟨pb, po, none⟩) pc ra rc (tB ⟨0, 0, List.replicate 8 0, eb⟩ rn_ rn_ s.locks.toNat s.groups.toNat (x + 1)) ({ m4 with cv := v5 }) ∧ (w5.setCell ⟨g3, 10, none⟩ v5).heap[w.heap.size]? = some (.cells #[.slice (some ⟨pb, po, none⟩) pn pc, .slice ra rn_ rc, .int .i64 s.groups, .int .i64 s.locks, .int .i64 s.cells] 29 (0, 0)) ∧ (w5.setCell ⟨g3, 10, none⟩ v5).heap[b2]? = some (.cells #[.slice none 0 0, .slice none 0 0, .int .i64 0, .int .i64 0, .int .i64 0, .slice none 0 0, .slice none 0 0, .slice none 0 0, .slice none 0 0, .slice none 0 0, .slice none 0 0, .slice none 0 0] 58 (0, 0))) := fun v5 w5 ho hg h5 => by
                      have hA := (Below.refl wo.heap.size wo).alloc (Nat.le_refl _) (.cells #[.int .i64 0] 3)
                      have h1 := HM.out.below hA
                      have hbg := hg.block g3 (blk_lt h1.blk) (fun e => own_neB h1.cel h1.blk (by decide) e.symm)
                      have hS1 := blk_keep HS.out hA
                      have hZ1 := blk_keep HZ.out hA
                      have hbs := hg.block w.heap.size (blk_lt hS1) (fun e => own_neB h1.cel hS1 (by decide) e.symm)
                      have hbz := hg.block b2 (blk_lt hZ1) (fun e => own_neB h1.cel hZ1 (by decide) e.symm)
                      refine ⟨?_, by rw [cell_of hbg]; exact h1.c10, by simp [World.frozen?, hbg, h1.blk], ?_, ?_, ?_⟩
                      · rcases ho.2 with ⟨e, _⟩ | ⟨_, _, _, e, _⟩
                        · exact ⟨_, _, _, e⟩
                        · exact ⟨_, _, _, e⟩
                      · have h2 := h1.addCe v5 ho hg h5
                        have e : ({ tB ⟨0, 0, List.replicate 8 0, eb⟩ rn_ rn_ s.locks.toNat s.groups.toNat x with cells := (tB ⟨0, 0, List.replicate 8 0, eb⟩ rn_ rn_ s.locks.toNat s.groups.toNat x).cells ++ [0] } : St) = tB ⟨0, 0, List.replicate 8 0, eb⟩ rn_ rn_ s.locks.toNat s.groups.toNat (x + 1) := by simp [tB, List.replicate_succ']
                        rw [← e]
                        exact h2
                      · rw [Below.heap_setCell _ _ _ _ hn1, hbs]
                        exact hS1
                      · rw [Below.heap_setCell _ _ _ _ hn2, hbz]
                        exact hZ1
                    go_wp2_with (at_builtin; refine wpList_append_own_at _ rfl _ _ 24 rfl w.heap.size 3 ii _ 1 8 Try.underlying24 hi0 hi1 hi2 hi3 rfl (by decide) m4.cv (tB ⟨0, 0, List.replicate 8 0, eb⟩ rn_ rn_ s.locks.toNat s.groups.toNat x).cells.length ((tB ⟨0, 0, List.replicate 8 0, eb⟩ rn_ rn_ s.locks.toNat s.groups.toNat x).cells.map (Value.int .i64)) rfl (HM.out.cel.alloc _) ⟨wo.heap.size, 0, none⟩ 1 1 [.int .i64 0] rfl rfl (cell_one_new _ _ _) (by simp [Value.oneCell']) (by unfold maxLen; simp [tB]; omega) (by simp [tB]; omega) (by have := HM.out.bl.size; simp; omega) ?_; (intro v5 w5 ho5 hg5 _ h5_); obtain ⟨⟨va10, vn10, vc10, rfl⟩, cz, fz, hM5, hS5, hZ5⟩ := HF.out v5 w5 ho5 hg5 h5_; have HM5 := TW.hide hM5; have HS5 := TW.hide hS5; have HZ5 := TW.hide hZ5; clear ho5 hg5 h5_ hM5 hS5 hZ5)
                    clear HM HS HZ HF cz fz c10 hi0 hi1 hi2 hi3
                    have HM := HM5
                    have HS := HS5
                    have HZ := HZ5
                    clear HM5 HS5 HZ5
                    generalize World.setCell _ _ _ = Z2 at *
                    go_wp2
                    go_roundw
                    case rel => exact ⟨x + 1, _, hlt, by go_num, HM, HS, HZ⟩
                    case measure => simp [intOf]; omega
                  · have hlt' : ¬ (x : Int) < s.cells := by omega
                    have hxe : s.cells.toNat = x := by omega
                    subst hxe
                    obtain ⟨a5, n5, c5, e5⟩ := own_form13 HM.out.rns
                    obtain ⟨a6, n6, c6, e6⟩ := own_form13 HM.out.hld
                    obtain ⟨a7, n7, c7, e7⟩ := own_form13 HM.out.sht
                    obtain ⟨a8, n8, c8, e8⟩ := own_form13 HM.out.lck
                    obtain ⟨a9, n9, c9, e9⟩ := own_form13 HM.out.grp
                    obtain ⟨a10, n10, c10, e10⟩ := own_form13 HM.out.cel
                    obtain ⟨a11, n11, c11, e11⟩ := own_form13 HM.out.evs
                    have hCL : wdC s (some ⟨pb, po, none⟩) pc ra rc m4.rv m4.hv m4.sv m4.lv m4.gv m4.cv m4.ev = #[.slice (some ⟨pb, po, none⟩) pn pc, .slice ra rn_ rc, .int .i64 s.groups, .int .i64 s.locks, .int .i64 s.cells, .slice a5 n5 c5, .slice a6 n6 c6, .slice a7 n7 c7, .slice a8 n8 c8, .slice a9 n9 c9, .slice a10 n10 c10, .slice a11 n11 c11] := by
                      rw [HWD.out m4, HPN.out, HRN.out, e5, e6, e7, e8, e9, e10, e11]
                    have N3 : Hid (wr.heap[g3]? = some (.cells #[.slice (some ⟨pb, po, none⟩) pn pc, .slice ra rn_ rc, .int .i64 s.groups, .int .i64 s.locks, .int .i64 s.cells, .slice a5 n5 c5, .slice a6 n6 c6, .slice a7 n7 c7, .slice a8 n8 c8, .slice a9 n9 c9, .slice a10 n10 c10, .slice a11 n11 c11] 58 (0, 0))) := by
                      show _ = _
                      rw [← hCL]
                      exact HM.out.blk
                    have HCL := TW.hide hCL
                    have HE := TW.hide (HM.out.wb.setW (cs' := #[.slice (some ⟨pb, po, none⟩) pn pc, .slice ra rn_ rc, .int .i64 s.groups, .int .i64 s.locks, .int .i64 s.cells, .slice a5 n5 c5, .slice a6 n6 c6, .slice a7 n7 c7, .slice a8 n8 c8, .slice a9 n9 c9, .slice a10 n10 c10, .slice a11 n11 c11]) HZ.out (show w.heap.size ≤ b2 by omega))
                    have HZ2 : Hid ((wr.setRow b2 #[.slice (some ⟨pb, po, none⟩) pn pc, .slice ra rn_ rc, .int .i64 s.groups, .int .i64 s.locks, .int .i64 s.cells, .slice a5 n5 c5, .slice a6 n6 c6, .slice a7 n7 c7, .slice a8 n8 c8, .slice a9 n9 c9, .slice a10 n10 c10, .slice a11 n11 c11]).heap[b2]? = some (.cells #[.slice (some ⟨pb, po, none⟩) pn pc, .slice ra rn_ rc, .int .i64 s.groups, .int .i64 s.locks, .int .i64 s.cells, .slice a5 n5 c5, .slice a6 n6 c6, .slice a7 n7 c7, .slice a8 n8 c8, .slice a9 n9 c9, .slice a10 n10 c10, .slice a11 n11 c11] 58 (0, 0))) := setRow_heap _ _ _ _ _ _ HZ.out
                    rw [← HFi.out] at HE
                    clear hCL HM HS e5 e6 e7 e8 e9 e10 e11
                    go_wp2_with (first | (refine wpList_load_row (by rfl) 58 _ (by rfl) g3 (by rfl) 58 #[.slice (some ⟨pb, po, none⟩) pn pc, .slice ra rn_ rc, .int .i64 s.groups, .int .i64 s.locks, .int .i64 s.cells, .slice a5 n5 c5, .slice a6 n6 c6, .slice a7 n7 c7, .slice a8 n8 c8, .slice a9 n9 c9, .slice a10 n10 c10, .slice a11 n11 c11] (0, 0) _ N3.out Try.underlying58 rfl (by kernel_rfl) ?_) | (refine wpList_store_row (by rfl) 58 _ _ (by rfl) b2 #[.slice (some ⟨pb, po, none⟩) pn pc, .slice ra rn_ rc, .int .i64 s.groups, .int .i64 s.locks, .int .i64 s.cells, .slice a5 n5 c5, .slice a6 n6 c6, .slice a7 n7 c7, .slice a8 n8 c8, .slice a9 n9 c9, .slice a10 n10 c10, .slice a11 n11 c11] (by rfl) (by rfl) 58 _ HZ.out (by kernel_rfl) (by rfl) (by simp [Value.oneCell']) ?_))
                    refine bodyPost_ret (v := .agg #[.slice (some ⟨pb, po, none⟩) pn pc, .slice ra rn_ rc, .int .i64 s.groups, .int .i64 s.locks, .int .i64 s.cells, .slice a5 n5 c5, .slice a6 n6 c6, .slice a7 n7 c7, .slice a8 n8 c8, .slice a9 n9 c9, .slice a10 n10 c10, .slice a11 n11 c11]) (results_cell_row (P := Try.prog) Try.results18 _ _ b2 58 _ (0, 0) _ rfl HZ2.out Try.underlying58 rfl (by kernel_rfl)) rfl ?_
                    exact ⟨{ m4 with gb := none, gc := #[] }, by rw [← HCL.out], HE.out.noG, rfl⟩
  clear hK1
  refine wp_region_noPanic ?_
  refine RG.wp_region_L (fun Z => True) (fun Z => Below V.heap.size V Z) [] (by kernel_rfl) ?_
  refine RG.wpL_any fun Y hY => ?_
  have HTa : Hid (Below V.heap.size V Y) := by rw [hY]; exact below_drewN (Below.refl _ _) 1
  clear hY
  have hYs := HTa.out.size
  refine RG.wpL_take (fuel := 4) (a' := ?Aa) [0, 1, 2, 3, 4, 5, 6, 7] (by kernel_rfl) (by kernel_rfl) (fun _ _ _ _ _ h => h) HTa.out (fun _ => trivial) ?ra ?_
  case ra =>
    refine RG.RunsIf.weak (v := .agg #[.slice (some ⟨pb, po, none⟩) pn pc, .slice ra rn_ rc, .int .i64 s.groups, .int .i64 s.locks, .int .i64 s.cells]) (by rfl) (by rfl) (fun Z hT => exec_load_row' 29 _ (by rfl) w.heap.size (by rfl) 29 #[.slice (some ⟨pb, po, none⟩) pn pc, .slice ra rn_ rc, .int .i64 s.groups, .int .i64 s.locks, .int .i64 s.cells] (0, 0) _ (blk_keep NS.out hT) Try.underlying29 rfl (by kernel_rfl)) ?_
    simp only [Act.put, List.setIfInBounds_toArray, List.set_cons_zero, List.set_cons_succ, List.getElem_toArray, List.getElem_cons_zero, List.getElem_cons_succ]
    refine RG.RunsIf.weak (v := ?_) (by rfl) (by rfl) (fun Z hT => ?_) ?_
    rotate_left
    · go_simp
      rfl
    simp only [Act.put, List.setIfInBounds_toArray, List.set_cons_zero, List.set_cons_succ, List.getElem_toArray, List.getElem_cons_zero, List.getElem_cons_succ]
    refine RG.RunsIf.weak (v := .slice (some ⟨pb, po, none⟩) pn pc) (by rfl) (by rfl) (fun Z hT => ?_) ?_
    · have s0 := keepC hT s0
      go_simp
    simp only [Act.put, List.setIfInBounds_toArray, List.set_cons_zero, List.set_cons_succ, List.getElem_toArray, List.getElem_cons_zero, List.getElem_cons_succ]
    refine RG.RunsIf.weak (v := ?_) (by rfl) (by rfl) (fun Z hT => ?_) ?_
    rotate_left
    · go_simp
      rfl
    simp only [Act.put, List.setIfInBounds_toArray, List.set_cons_zero, List.set_cons_succ, List.getElem_toArray, List.getElem_cons_zero, List.getElem_cons_succ]
    refine RG.RunsIf.weak (v := .slice A pl K0) (by rfl) (by rfl) (fun Z hT => ?_) ?_
    · have y1 := keepC hT y1
      go_simp
    simp only [Act.put, List.setIfInBounds_toArray, List.set_cons_zero, List.set_cons_succ, List.getElem_toArray, List.getElem_cons_zero, List.getElem_cons_succ]
    refine RG.RunsIf.weak (v := ?_) (by rfl) (by rfl) (fun Z hT => ?_) ?_
    rotate_left
    · go_simp
      rfl
    simp only [Act.put, List.setIfInBounds_toArray, List.set_cons_zero, List.set_cons_succ, List.getElem_toArray, List.getElem_cons_zero, List.getElem_cons_succ]
    refine RG.RunsIf.weak (v := .bool eb) (by rfl) (by rfl) (fun Z hT => ?_) ?_
    · go_simp
    simp only [Act.put, List.setIfInBounds_toArray, List.set_cons_zero, List.set_cons_succ, List.getElem_toArray, List.getElem_cons_zero, List.getElem_cons_succ]
    refine RG.RunsIf.weak (v := ?_) (by rfl) (by rfl) (fun Z hT => ?_) ?_
    rotate_left
    · go_simp
      rfl
    simp only [Act.put, List.setIfInBounds_toArray, List.set_cons_zero, List.set_cons_succ, List.getElem_toArray, List.getElem_cons_zero, List.getElem_cons_succ]
    exact RG.RunsIf.nil
  refine RG.wpL_pair (i := 8) (j := 10) (by kernel_rfl) (by rfl) (by rfl) (by rfl) (by rfl) (fun KX hK => ?_) (fun KX hK => ?_)
  · have Hb : Hid (Below V.heap.size V (Y.alloc (.cells #[.int .i64 0, .int .i64 0, .int .i64 0, .int .i64 0, .int .i64 0, .int .i64 0, .int .i64 0, .int .i64 0, .int .i64 0, .int .i64 0, .bool eb] 86))) := HTa.out.alloc hYs _
    have hs1 : (Y.alloc (.cells #[.int .i64 0, .int .i64 0, .int .i64 0, .int .i64 0, .int .i64 0, .int .i64 0, .int .i64 0, .int .i64 0, .int .i64 0, .int .i64 0, .bool eb] 86)).heap.size = Y.heap.size + 1 := by simp
    have HK := TW.hide hK
    clear hK
    go_simp
    refine HK.out _ _ Hb.out (fun _ => trivial) ?_
    clear HK KX
    try simp only [Act.put, List.setIfInBounds_toArray, List.set_cons_zero, List.set_cons_succ, List.getElem_toArray, List.getElem_cons_zero, List.getElem_cons_succ]
    refine RG.wpL_take (fuel := 2) (a' := ?Ab) [9] (by kernel_rfl) (by kernel_rfl) (fun _ _ _ _ _ h => h) Hb.out (fun _ => trivial) ?rb ?_
    case rb =>
      refine RG.RunsIf.weak (v := ?_) (by rfl) (by rfl) (fun Z hT => ?_) ?_
      rotate_left
      · go_simp
        rfl
      simp only [Act.put, List.setIfInBounds_toArray, List.set_cons_zero, List.set_cons_succ, List.getElem_toArray, List.getElem_cons_zero, List.getElem_cons_succ]
      exact RG.RunsIf.nil
    have Hc : Hid (Below V.heap.size V ((Y.alloc (.cells #[.int .i64 0, .int .i64 0, .int .i64 0, .int .i64 0, .int .i64 0, .int .i64 0, .int .i64 0, .int .i64 0, .int .i64 0, .int .i64 0, .bool eb] 86)).alloc (.cells #[.slice none 0 0, .slice none 0 0, .int .i64 0, .int .i64 0, .int .i64 0, .slice none 0 0, .slice none 0 0, .slice none 0 0, .slice none 0 0, .slice none 0 0, .slice none 0 0, .slice none 0 0] 58))) := Hb.out.alloc (by omega) _
    have NR : Hid (((Y.alloc (.cells #[.int .i64 0, .int .i64 0, .int .i64 0, .int .i64 0, .int .i64 0, .int .i64 0, .int .i64 0, .int .i64 0, .int .i64 0, .int .i64 0, .bool eb] 86)).alloc (.cells #[.slice none 0 0, .slice none 0 0, .int .i64 0, .int .i64 0, .int .i64 0, .slice none 0 0, .slice none 0 0, .slice none 0 0, .slice none 0 0, .slice none 0 0, .slice none 0 0, .slice none 0 0] 58)).heap[Y.heap.size]? = some (.cells #[.int .i64 0, .int .i64 0, .int .i64 0, .int .i64 0, .int .i64 0, .int .i64 0, .int .i64 0, .int .i64 0, .int .i64 0, .int .i64 0, .bool eb] 86 (0, 0))) := blk_alloc (heap_alloc_new Y _)
    have NW : Hid (((Y.alloc (.cells #[.int .i64 0, .int .i64 0, .int .i64 0, .int .i64 0, .int .i64 0, .int .i64 0, .int .i64 0, .int .i64 0, .int .i64 0, .int .i64 0, .bool eb] 86)).alloc (.cells #[.slice none 0 0, .slice none 0 0, .int .i64 0, .int .i64 0, .int .i64 0, .slice none 0 0, .slice none 0 0, .slice none 0 0, .slice none 0 0, .slice none 0 0, .slice none 0 0, .slice none 0 0] 58)).heap[Y.heap.size + 1]? = some (.cells #[.slice none 0 0, .slice none 0 0, .int .i64 0, .int .i64 0, .int .i64 0, .slice none 0 0, .slice none 0 0, .slice none 0 0, .slice none 0 0, .slice none 0 0, .slice none 0 0, .slice none 0 0] 58 (0, 0))) := by
      have h1 := heap_alloc_new (Y.alloc (.cells #[.int .i64 0, .int .i64 0, .int .i64 0, .int .i64 0, .int .i64 0, .int .i64 0, .int .i64 0, .int .i64 0, .int .i64 0, .int .i64 0, .bool eb] 86)) (.cells #[.slice none 0 0, .slice none 0 0, .int .i64 0, .int .i64 0, .int .i64 0, .slice none 0 0, .slice none 0 0, .slice none 0 0, .slice none 0 0, .slice none 0 0, .slice none 0 0, .slice none 0 0] 58)
      rw [hs1] at h1
      exact h1
    refine RG.wpL_step (i := 10) (by kernel_rfl) (by rfl) (by rfl) (fun KX hK => ?_)
    have HK := TW.hide hK
    clear hK
    go_simp
    refine HK.out _ _ Hc.out (fun _ => trivial) ?_
    clear HK KX
    try simp only [Act.put, List.setIfInBounds_toArray, List.set_cons_zero, List.set_cons_succ, List.getElem_toArray, List.getElem_cons_zero, List.getElem_cons_succ]
    have hgr : V.heap.size ≤ Y.heap.size := hYs
    have hg3 : V.heap.size ≤ Y.heap.size + 1 := by omega
    have hne : Y.heap.size ≠ Y.heap.size + 1 := by omega
    refine RG.wpL_step (i := 11) (by kernel_rfl) (by rfl) (by rfl) (fun KX hK => ?_)
    have HK := TW.hide hK
    clear hK
    have T5 : Hid (Below V.heap.size V (((Y.alloc (.cells #[.int .i64 0, .int .i64 0, .int .i64 0, .int .i64 0, .int .i64 0, .int .i64 0, .int .i64 0, .int .i64 0, .int .i64 0, .int .i64 0, .bool eb] 86)).alloc (.cells #[.slice none 0 0, .slice none 0 0, .int .i64 0, .int .i64 0, .int .i64 0, .slice none 0 0, .slice none 0 0, .slice none 0 0, .slice none 0 0, .slice none 0 0, .slice none 0 0, .slice none 0 0] 58)).setRow (Y.heap.size + 1) #[.slice (some ⟨pb, po, none⟩) pn pc, .slice ra rn_ rc, .int .i64 s.groups, .int .i64 s.locks, .int .i64 s.cells, .slice (some ⟨Y.heap.size, 0, none⟩) 1 1, .slice none 0 0, .slice none 0 0, .slice none 0 0, .slice none 0 0, .slice none 0 0, .slice none 0 0])) := below_setRow Hc.out hg3
    refine wp_store_row 58 _ _ (by rfl) (Y.heap.size + 1) #[.slice (some ⟨pb, po, none⟩) pn pc, .slice ra rn_ rc, .int .i64 s.groups, .int .i64 s.locks, .int .i64 s.cells, .slice (some ⟨Y.heap.size, 0, none⟩) 1 1, .slice none 0 0, .slice none 0 0, .slice none 0 0, .slice none 0 0, .slice none 0 0, .slice none 0 0] (by rfl) (by rfl) 58 _ NW.out (by kernel_rfl) (by rfl) (by simp [Value.oneCell']) ?_
    simp only [Act.put, List.setIfInBounds_toArray, List.set_cons_zero, List.set_cons_succ, List.getElem_toArray, List.getElem_cons_zero, List.getElem_cons_succ]
    refine HK.out _ _ T5.out (fun _ => trivial) ?_
    clear HK KX
    refine RG.wpL_done (by kernel_rfl) ?_ _
    refine NoPanic.normal ?_
    exact HR1.out Y.heap.size (Y.heap.size + 1) _ T5.out (by rw [setRow_other _ _ _ _ hne]; exact NR.out) (setRow_heap _ _ _ _ _ _ NW.out) hgr hg3
  · have Hb : Hid (Below V.heap.size V (Y.alloc (.cells #[.slice none 0 0, .slice none 0 0, .int .i64 0, .int .i64 0, .int .i64 0, .slice none 0 0, .slice none 0 0, .slice none 0 0, .slice none 0 0, .slice none 0 0, .slice none 0 0, .slice none 0 0] 58))) := HTa.out.alloc hYs _
    have hs1 : (Y.alloc (.cells #[.slice none 0 0, .slice none 0 0, .int .i64 0, .int .i64 0, .int .i64 0, .slice none 0 0, .slice none 0 0, .slice none 0 0, .slice none 0 0, .slice none 0 0, .slice none 0 0, .slice none 0 0] 58)).heap.size = Y.heap.size + 1 := by simp
    have HK := TW.hide hK
    clear hK
    go_simp
    refine HK.out _ _ Hb.out (fun _ => trivial) ?_
    clear HK KX
    try simp only [Act.put, List.setIfInBounds_toArray, List.set_cons_zero, List.set_cons_succ, List.getElem_toArray, List.getElem_cons_zero, List.getElem_cons_succ]
    have Hc : Hid (Below V.heap.size V ((Y.alloc (.cells #[.slice none 0 0, .slice none 0 0, .int .i64 0, .int .i64 0, .int .i64 0, .slice none 0 0, .slice none 0 0, .slice none 0 0, .slice none 0 0, .slice none 0 0, .slice none 0 0, .slice none 0 0] 58)).alloc (.cells #[.int .i64 0, .int .i64 0, .int .i64 0, .int .i64 0, .int .i64 0, .int .i64 0, .int .i64 0, .int .i64 0, .int .i64 0, .int .i64 0, .bool eb] 86))) := Hb.out.alloc (by omega) _
    have NW : Hid (((Y.alloc (.cells #[.slice none 0 0, .slice none 0 0, .int .i64 0, .int .i64 0, .int .i64 0, .slice none 0 0, .slice none 0 0, .slice none 0 0, .slice none 0 0, .slice none 0 0, .slice none 0 0, .slice none 0 0] 58)).alloc (.cells #[.int .i64 0, .int .i64 0, .int .i64 0, .int .i64 0, .int .i64 0, .int .i64 0, .int .i64 0, .int .i64 0, .int .i64 0, .int .i64 0, .bool eb] 86)).heap[Y.heap.size]? = some (.cells #[.slice none 0 0, .slice none 0 0, .int .i64 0, .int .i64 0, .int .i64 0, .slice none 0 0, .slice none 0 0, .slice none 0 0, .slice none 0 0, .slice none 0 0, .slice none 0 0, .slice none 0 0] 58 (0, 0))) := blk_alloc (heap_alloc_new Y _)
    have NR : Hid (((Y.alloc (.cells #[.slice none 0 0, .slice none 0 0, .int .i64 0, .int .i64 0, .int .i64 0, .slice none 0 0, .slice none 0 0, .slice none 0 0, .slice none 0 0, .slice none 0 0, .slice none 0 0, .slice none 0 0] 58)).alloc (.cells #[.int .i64 0, .int .i64 0, .int .i64 0, .int .i64 0, .int .i64 0, .int .i64 0, .int .i64 0, .int .i64 0, .int .i64 0, .int .i64 0, .bool eb] 86)).heap[Y.heap.size + 1]? = some (.cells #[.int .i64 0, .int .i64 0, .int .i64 0, .int .i64 0, .int .i64 0, .int .i64 0, .int .i64 0, .int .i64 0, .int .i64 0, .int .i64 0, .bool eb] 86 (0, 0))) := by
      have h1 := heap_alloc_new (Y.alloc (.cells #[.slice none 0 0, .slice none 0 0, .int .i64 0, .int .i64 0, .int .i64 0, .slice none 0 0, .slice none 0 0, .slice none 0 0, .slice none 0 0, .slice none 0 0, .slice none 0 0, .slice none 0 0] 58)) (.cells #[.int .i64 0, .int .i64 0, .int .i64 0, .int .i64 0, .int .i64 0, .int .i64 0, .int .i64 0, .int .i64 0, .int .i64 0, .int .i64 0, .bool eb] 86)
      rw [hs1] at h1
      exact h1
    refine RG.wpL_step (i := 8) (by kernel_rfl) (by rfl) (by rfl) (fun KX hK => ?_)
    have HK := TW.hide hK
    clear hK
    go_simp
    refine HK.out _ _ Hc.out (fun _ => trivial) ?_
    clear HK KX
    try simp only [Act.put, List.setIfInBounds_toArray, List.set_cons_zero, List.set_cons_succ, List.getElem_toArray, List.getElem_cons_zero, List.getElem_cons_succ]
    refine RG.wpL_take (fuel := 1) (a' := ?Ac) [9] (by kernel_rfl) (by kernel_rfl) (fun _ _ _ _ _ h => h) Hc.out (fun _ => trivial) ?rc ?_
    case rc =>
      refine RG.RunsIf.weak (v := ?_) (by rfl) (by rfl) (fun Z hT => ?_) ?_
      rotate_left
      · go_simp
        rfl
      simp only [Act.put, List.setIfInBounds_toArray, List.set_cons_zero, List.set_cons_succ, List.getElem_toArray, List.getElem_cons_zero, List.getElem_cons_succ]
      exact RG.RunsIf.nil
    have hg3 : V.heap.size ≤ Y.heap.size := hYs
    have hgr : V.heap.size ≤ Y.heap.size + 1 := by omega
    have hne : Y.heap.size + 1 ≠ Y.heap.size := by omega
    refine RG.wpL_step (i := 11) (by kernel_rfl) (by rfl) (by rfl) (fun KX hK => ?_)
    have HK := TW.hide hK
    clear hK
    have T5 : Hid (Below V.heap.size V (((Y.alloc (.cells #[.slice none 0 0, .slice none 0 0, .int .i64 0, .int .i64 0, .int .i64 0, .slice none 0 0, .slice none 0 0, .slice none 0 0, .slice none 0 0, .slice none 0 0, .slice none 0 0, .slice none 0 0] 58)).alloc (.cells #[.int .i64 0, .int .i64 0, .int .i64 0, .int .i64 0, .int .i64 0, .int .i64 0, .int .i64 0, .int .i64 0, .int .i64 0, .int .i64 0, .bool eb] 86)).setRow Y.heap.size #[.slice (some ⟨pb, po, none⟩) pn pc, .slice ra rn_ rc, .int .i64 s.groups, .int .i64 s.locks, .int .i64 s.cells, .slice (some ⟨(Y.heap.size + 1), 0, none⟩) 1 1, .slice none 0 0, .slice none 0 0, .slice none 0 0, .slice none 0 0, .slice none 0 0, .slice none 0 0])) := below_setRow Hc.out hg3
    refine wp_store_row 58 _ _ (by rfl) Y.heap.size #[.slice (some ⟨pb, po, none⟩) pn pc, .slice ra rn_ rc, .int .i64 s.groups, .int .i64 s.locks, .int .i64 s.cells, .slice (some ⟨(Y.heap.size + 1), 0, none⟩) 1 1, .slice none 0 0, .slice none 0 0, .slice none 0 0, .slice none 0 0, .slice none 0 0, .slice none 0 0] (by rfl) (by rfl) 58 _ NW.out (by kernel_rfl) (by rfl) (by simp [Value.oneCell']) ?_
    simp only [Act.put, List.setIfInBounds_toArray, List.set_cons_zero, List.set_cons_succ, List.getElem_toArray, List.getElem_cons_zero, List.getElem_cons_succ]
    refine HK.out _ _ T5.out (fun _ => trivial) ?_
    clear HK KX
    refine RG.wpL_done (by kernel_rfl) ?_ _
    refine NoPanic.normal ?_
    exact HR1.out (Y.heap.size + 1) Y.heap.size _ T5.out (by rw [setRow_other _ _ _ _ hne]; exact NR.out) (setRow_heap _ _ _ _ _ _ NW.out) hgr hg3
end LW
end Go.Proofs.Ytghpfhoajcgghaa
