/-
  The law on the order of events.
-/
import Derived.Test.YtnfimdcpocooiaaCkC
namespace Go.Proofs.Ytnfimdcpocooiaa
open Go.RowKit
set_option linter.unusedVariables false
set_option linter.unusedSimpArgs false
namespace LW
open Mc
/-- What is known of two events by their clocks. -/
theorem bfB_iff (s : Syst) (l : List Ev) (i j : Nat) (hi : i < l.length) (hj : j < l.length) : bfB s l i j = true ↔ Tr.Bf s l i j := by
  unfold bfB
  rw [decide_eq_true_iff, Tr.bf_iff s l i j hi hj]
theorem clE_v {s : Syst} {l : List Ev} (h : clE s l = 0) : (Tr.vR s l).2.2 = 0 := by
  unfold clE at h
  by_cases h1 : (Tr.vR s l).2.2 = 0
  · exact h1
  · rw [if_neg h1] at h
    exact h
theorem cm_at {o W : World} {G n : Nat} {cl ag : Nat → List Int} {hs : List Value} {v : Oc → Value} (h : CM o W G n cl ag hs v) (j : Nat) (hj : j < n) (p : Nat) (hp : p < (cl j).length) : ∃ b cap b2 o2 c2, v Oc.li = .slice (some ⟨b, 0, none⟩) n cap ∧ W.cell? ⟨b, j, none⟩ = some (.slice (some ⟨b2, o2, none⟩) (cl j).length c2) ∧ W.cell? ⟨b2, o2 + p, none⟩ = some (.int .i64 ((cl j).getD p 0)) := by
  obtain ⟨b, cap, e, y⟩ := h.liAt j hj
  obtain ⟨a, c, e2, h2⟩ := h.clIs j
  rcases h2 with h2 | ⟨b2, o2, rfl, h2⟩
  · rw [h2] at hp; simp at hp
  · exact ⟨b, cap, b2, o2, c, e, by rw [y, e2], h2 p hp⟩
theorem be_in {s : Syst} {l : List Ev} {i j : Nat} (h : (Tr.vR s l).2.2 = 0) (hi : i < l.length) (hj : j < l.length) : beE s l (i : Int) (j : Int) = 0 ∧ beA s l (i : Int) (j : Int) = bfB s l i j := by
  have h1 : beE s l (i : Int) (j : Int) = 0 := by unfold beE; rw [if_pos h, if_pos (by omega)]
  refine ⟨h1, ?_⟩
  unfold beA
  rw [h1]
  simp
set_option maxRecDepth 100000 in
set_option maxHeartbeats 40000000 in
theorem orderW (s : Syst) (pa : Option Addr) (pc : Nat) (ra : Option Addr) (rc : Nat) (la : Option Addr) (lc : Nat) (l : List Ev) (ai aj ak : Int) (w : World) (hs : SyI w s pa ra) (hl : EvI w la lc l) (hz : l.length ≤ 3518437208780) (hi : i64 ai) (hj : i64 aj) (hk : i64 ak) :
    Calls Try.prog 6 #[.agg (syC s pa pc ra rc), .slice la l.length lc, .agg #[.int .i64 ai, .int .i64 aj, .int .i64 ak]] w fun e w' => e = .returned (.bool true) ∧ Below w.heap.size w w' := by
  unfold syC
  have HCk : Hid (∀ W, Below w.heap.size w W → Calls Try.prog 12 #[.agg #[.slice pa s.progs.length pc, .slice ra s.rooms.length rc, .int .i64 s.groups, .int .i64 s.locks, .int .i64 s.cells], .slice la l.length lc] W fun e w' => ∃ x, e = .returned (.tuple #[x, .int .i64 (clE s l)]) ∧ (clE s l = 0 → ∃ lb lp, x = .slice lb l.length lp ∧ ∃ o G ag hs v, CM o w' G l.length (fun j => if j < l.length then clL s l 0 (Tr.rnC l) j else []) ag hs v ∧ v Oc.li = x) ∧ Below W.heap.size W w') := fun W hW => (ptclocks s pa pc ra rc la lc l W (hs.below hW) (hl.below hW)).mono fun e w' h => by
    by_cases hc : clE s l = 0
    · obtain ⟨o, G, ag, hs, v, e1, _, hm⟩ := h.2.1 hc
      obtain ⟨lb, lp, el⟩ := own_openE (hm.fam.own Oc.li)
      exact ⟨v Oc.li, by rw [e1, hc], fun _ => ⟨lb, lp, el, o, G, ag, hs, v, hm, rfl⟩, h.2.2⟩
    · exact ⟨_, h.1 hc, fun x => absurd x hc, h.2.2⟩
  have HBe : Hid (∀ (i j : Int) W, Below w.heap.size w W → Calls Try.prog 15 #[.agg #[.slice pa s.progs.length pc, .slice ra s.rooms.length rc, .int .i64 s.groups, .int .i64 s.locks, .int .i64 s.cells], .slice la l.length lc, .int .i64 i, .int .i64 j] W fun e w' => e = .returned (.tuple #[.bool (beA s l i j), .int .i64 (beE s l i j)]) ∧ Below W.heap.size W w') := fun i j W hW => ptbefore s pa pc ra rc la lc l i j W (hs.below hW) (hl.below hW)
  have HEv := TW.hide hl
  have HLn : Hid (l.length ≤ 9223372036854775807) := Nat.le_trans hl.lc hl.ln
  clear hs hl hz hi hj hk
  have NS0 : Hid (((w.alloc (.cells #[.slice pa s.progs.length pc, .slice ra s.rooms.length rc, .int .i64 s.groups, .int .i64 s.locks, .int .i64 s.cells] 25)).alloc (.cells #[.int .i64 ai, .int .i64 aj, .int .i64 ak] 45)).heap[w.heap.size]? = some (.cells #[.slice pa s.progs.length pc, .slice ra s.rooms.length rc, .int .i64 s.groups, .int .i64 s.locks, .int .i64 s.cells] 25 (0, 0))) := blk_alloc (heap_alloc_new w _)
  have NA0 : Hid (((w.alloc (.cells #[.slice pa s.progs.length pc, .slice ra s.rooms.length rc, .int .i64 s.groups, .int .i64 s.locks, .int .i64 s.cells] 25)).alloc (.cells #[.int .i64 ai, .int .i64 aj, .int .i64 ak] 45)).heap[w.heap.size + 1]? = some (.cells #[.int .i64 ai, .int .i64 aj, .int .i64 ak] 45 (0, 0))) := by
    have h1 := heap_alloc_new (w.alloc (.cells #[.slice pa s.progs.length pc, .slice ra s.rooms.length rc, .int .i64 s.groups, .int .i64 s.locks, .int .i64 s.cells] 25)) (.cells #[.int .i64 ai, .int .i64 aj, .int .i64 ak] 45)
    have h2 : (w.alloc (.cells #[.slice pa s.progs.length pc, .slice ra s.rooms.length rc, .int .i64 s.groups, .int .i64 s.locks, .int .i64 s.cells] 25)).heap.size = w.heap.size + 1 := by simp
    rw [h2] at h1
    exact h1
  have NB0 : Hid (Below w.heap.size w ((w.alloc (.cells #[.slice pa s.progs.length pc, .slice ra s.rooms.length rc, .int .i64 s.groups, .int .i64 s.locks, .int .i64 s.cells] 25)).alloc (.cells #[.int .i64 ai, .int .i64 aj, .int .i64 ak] 45))) := ((Below.refl _ _).alloc (Nat.le_refl _) _).alloc (by simp) _
  go_enter Try.func6, Try.ntmps6
  refine wp_seq_k fun K hK => ?_
  have HK := TW.hide hK
  clear hK
  go_wp2
  refine HK.out _ _ ?_
  clear HK K
  generalize World.alloc _ _ = X at *
  generalize w.heap.size + 1 = ga at *
  have z0 : X.cell? ⟨ga, 0, none⟩ = some (.int .i64 ai) := blk_cell NA0.out rfl
  have z1 : X.cell? ⟨ga, 1, none⟩ = some (.int .i64 aj) := blk_cell NA0.out rfl
  have z2 : X.cell? ⟨ga, 2, none⟩ = some (.int .i64 ak) := blk_cell NA0.out rfl
  refine wp_seq_k fun K hK => ?_
  have HK := TW.hide hK
  clear hK
  go_wp2
  go_quiet (fail)
  go_wp2
  refine HK.out _ _ ?_
  clear HK K
  have hq : Below X.heap.size X (X.drewN nq) := below_drewN (Below.refl _ _) _
  have NS := TW.hide (blk_keep NS0.out hq)
  have NBx : Hid (Below w.heap.size w (X.drewN nq)) := NB0.out.trans (hq.mono NB0.out.size)
  clear hq z0 z1 z2 NS0 NA0 NB0
  generalize X.drewN nq = X1 at *
  refine wp_seq_k fun K hK => ?_
  have HK := TW.hide hK
  clear hK
  go_wp2_with fail
  refine (lalive X1).mono ?_
  rintro e1 W1 ⟨rfl, hb⟩
  have NB1 : Hid (Below w.heap.size w W1) := NBx.out.trans (hb.mono NBx.out.size)
  have NS1 := TW.hide (blk_keep NS.out hb)
  clear hb NBx NS
  go_wp2
  refine HK.out _ _ ?_
  clear HK
  obtain ⟨y0, y1, y2, y3, y4⟩ := cellsY5 NS1.out
  refine wp_seq_k fun K hK => ?_
  have HK := TW.hide hK
  clear hK
  go_wp2_with fail
  refine (HCk.out W1 NB1.out).mono ?_
  rintro e2 W2 ⟨x, rfl, hx, hb⟩
  have NB2 : Hid (Below w.heap.size w W2) := NB1.out.trans (hb.mono NB1.out.size)
  have NS2 := TW.hide (blk_keep NS1.out hb)
  have HX := TW.hide hx
  clear hb NB1 NS1 hx HCk y0 y1 y2 y3 y4
  go_wp2
  refine HK.out _ _ ?_
  clear HK
  have knc : ∀ z : Int, z = 0 → (z != 0) = false := fun z h => by simp [h]
  by_cases hc : clE s l = 0
  · have kc := knc _ hc
    by_cases h1 : ai < 0
    · clear HX hc knc
      go_wp2
      go_ret
      exact ⟨rfl, NB2.out⟩
    · by_cases h2 : aj < 0
      · clear HX hc knc
        go_wp2
        go_ret
        exact ⟨rfl, NB2.out⟩
      · by_cases h3 : ak < 0
        · clear HX hc knc
          go_wp2
          go_ret
          exact ⟨rfl, NB2.out⟩
        · have k1 : (ai < 0) = False := by simp; omega
          have k2 : (aj < 0) = False := by simp; omega
          have k3 : (ak < 0) = False := by simp; omega
          by_cases h4 : (l.length : Int) ≤ ai
          · clear HX hc knc h1 h2 h3
            go_wp2
            go_ret
            exact ⟨rfl, NB2.out⟩
          · by_cases h5 : (l.length : Int) ≤ aj
            · have k4 : ai < (l.length : Int) := by omega
              clear HX hc knc h1 h2 h3 h4
              go_wp2
              go_ret
              exact ⟨rfl, NB2.out⟩
            · by_cases h6 : (l.length : Int) ≤ ak
              · have k4 : ai < (l.length : Int) := by omega
                have k5 : aj < (l.length : Int) := by omega
                clear HX hc knc h1 h2 h3 h4 h5
                go_wp2
                go_ret
                exact ⟨rfl, NB2.out⟩
              · obtain ⟨i, rfl⟩ : ∃ i : Nat, ai = (i : Int) := ⟨ai.toNat, by omega⟩
                obtain ⟨j, rfl⟩ : ∃ j : Nat, aj = (j : Int) := ⟨aj.toNat, by omega⟩
                obtain ⟨k, rfl⟩ : ∃ k : Nat, ak = (k : Int) := ⟨ak.toNat, by omega⟩
                have hi : i < l.length := by omega
                have hj : j < l.length := by omega
                have hk : k < l.length := by omega
                obtain ⟨lb, lp, rfl, o, G, ag, hs, v, hm, hli⟩ := HX.out hc
                obtain ⟨_, hL, hg, _⟩ := Tr.vR_ok (clE_v hc)
                obtain ⟨wi, hwi, hwi5, hwir⟩ := own_base8 hg hi
                obtain ⟨wj, hwj, _, hwjr⟩ := own_base8 hg hj
                obtain ⟨b1, cp1, b2, o2, c2, el, y1, y2⟩ := cm_at hm i hi wi (by rw [if_pos hi, clL_len]; exact hwir)
                obtain ⟨b1', cp1', b3, o3, c3, el', y3, y4⟩ := cm_at hm j hj wi (by rw [if_pos hj, clL_len]; exact hwir)
                rw [hli] at el el'
                injection el with el1 _ el3
                injection el' with el1' _ el3'
                subst el1 el3
                injection el1' with el1'
                injection el1' with el1'
                subst el1' el3'
                rw [if_pos hi, clL_len] at y1
                rw [if_pos hj, clL_len] at y3
                rw [if_pos hi, clL_at s l 0 _ i wi hwir, Nat.zero_add] at y2
                rw [if_pos hj, clL_at s l 0 _ j wi hwir, Nat.zero_add] at y4
                obtain ⟨ci, hci⟩ : ∃ ci : Int, ((Tr.ck s l (wi : Int) i : Nat) : Int) = ci := ⟨_, rfl⟩
                obtain ⟨cj, hcj⟩ : ∃ cj : Int, ((Tr.ck s l (wi : Int) j : Nat) : Int) = cj := ⟨_, rfl⟩
                rw [hci] at y2
                rw [hcj] at y4
                have hba : bfB s l i j = decide (i ≠ j ∧ ci ≤ cj) := by
                  unfold bfB
                  rw [hwi, ← hci, ← hcj]
                  congr 1
                  apply propext
                  exact and_congr Iff.rfl (by omega)
                have hlt : bfB s l i j = true → i < j := fun h => ((bfB_iff s l i j hi hj).1 h).lt
                have htr : bfB s l i j = true → bfB s l j k = true → bfB s l i k = true := fun h h2 => (bfB_iff s l i k hi hk).2 (((bfB_iff s l i j hi hj).1 h).trans ((bfB_iff s l j k hj hk).1 h2))
                have hown : i < j → wi = wj → bfB s l i j = true := fun h h2 => (bfB_iff s l i j hi hj).2 (Tr.bf_own s l i j h hj (by rw [hwi, hwj, h2]))
                have hself : bfB s l i i = false := by unfold bfB; exact decide_eq_false (fun h => h.1 rfl)
                have HC : Hid (∀ (p q : Nat) (x : Bool), p < l.length → q < l.length → bfB s l p q = x → ∀ W, Below w.heap.size w W → Calls Try.prog 15 #[.agg #[.slice pa s.progs.length pc, .slice ra s.rooms.length rc, .int .i64 s.groups, .int .i64 s.locks, .int .i64 s.cells], .slice la l.length lc, .int .i64 (p : Int), .int .i64 (q : Int)] W fun e w' => e = .returned (.tuple #[.bool x, .int .i64 0]) ∧ Below W.heap.size W w') := fun p q x hp hq hx W hW => by
                  have := HBe.out p q W hW
                  obtain ⟨e1, e2⟩ := be_in (clE_v hc) hp hq
                  rw [e1, e2, hx] at this
                  exact this
                have HIl := TW.hide hi
                have HJl := TW.hide hj
                have HWi := TW.hide hwi
                have HWj := TW.hide hwj
                obtain ⟨a, ha⟩ : ∃ a, bfB s l i j = a := ⟨_, rfl⟩
                obtain ⟨b, hb⟩ : ∃ b, bfB s l j k = b := ⟨_, rfl⟩
                obtain ⟨d, hd⟩ : ∃ d, bfB s l i k = d := ⟨_, rfl⟩
                have HC1 := TW.hide (HC.out i j a hi hj ha)
                have HC2 := TW.hide (HC.out j k b hj hk hb)
                have HC3 := TW.hide (HC.out i k d hi hk hd)
                have HC4 := TW.hide (HC.out i i false hi hi hself)
                rw [ha] at hba hlt htr hown
                rw [hb, hd] at htr
                obtain ⟨rn, hrn⟩ : ∃ rn, Tr.rnC l = rn := ⟨_, rfl⟩
                rw [hrn] at y1 y3 hwir hwjr
                have HBa := TW.hide hba
                have HLt := TW.hide hlt
                have HTr := TW.hide htr
                have HOw := TW.hide hown
                have k4 : (i : Int) < (l.length : Int) := by omega
                have k5 : (j : Int) < (l.length : Int) := by omega
                have k6 : (k : Int) < (l.length : Int) := by omega
                have k7 : (0 : Int) ≤ (wi : Int) := by omega
                have k8 : (wi : Int) < (rn : Int) := by omega
                have k9 : ((rn : Int) ≤ (wi : Int)) = False := by simp; omega
                have k7' : ((wi : Int) < 0) = False := eq_false (by omega)
                have kj' : ((wj : Int) < 0) = False := eq_false (by omega)
                have kll : ((l.length : Int) != (l.length : Int)) = false := by simp
                clear hc knc HX hm hli hg hL hwi hwj hwi5 hwjr hci hcj hba hlt htr hown hself HC HBe hi hj hk ha hb hd hrn h1 h2 h3 h4 h5 h6 hwir
                refine wp_seq_k fun K hK => ?_
                have HK := TW.hide hK
                clear hK
                go_wp2
                refine HK.out _ _ ?_
                clear HK
                have NB := NB2
                clear NB2
                obtain ⟨t0, t1, t2, t3, t4⟩ := cellsY5 NS2.out
                refine wp_seq_k fun K hK => ?_
                have HK := TW.hide hK
                clear hK
                go_wp2_with fail
                refine (HC1.out W2 NB.out).mono ?_
                rintro e3 W3 ⟨rfl, hb⟩
                have NS3 := TW.hide (blk_keep NS2.out hb)
                have NBn : Hid (Below w.heap.size w W3) := NB.out.trans (hb.mono NB.out.size)
                have y1 := keepC hb y1
                have y2 := keepC hb y2
                have y3 := keepC hb y3
                have y4 := keepC hb y4
                clear NB hb NS2 HC1 t0 t1 t2 t3 t4
                have NB := NBn
                clear NBn
                go_wp2
                refine HK.out _ _ ?_
                clear HK
                obtain ⟨t0, t1, t2, t3, t4⟩ := cellsY5 NS3.out
                refine wp_seq_k fun K hK => ?_
                have HK := TW.hide hK
                clear hK
                go_wp2_with fail
                refine (HC2.out W3 NB.out).mono ?_
                rintro e4 W4 ⟨rfl, hb⟩
                have NS4 := TW.hide (blk_keep NS3.out hb)
                have NBn : Hid (Below w.heap.size w W4) := NB.out.trans (hb.mono NB.out.size)
                have y1 := keepC hb y1
                have y2 := keepC hb y2
                have y3 := keepC hb y3
                have y4 := keepC hb y4
                clear NB hb NS3 HC2 t0 t1 t2 t3 t4
                have NB := NBn
                clear NBn
                go_wp2
                refine HK.out _ _ ?_
                clear HK
                obtain ⟨t0, t1, t2, t3, t4⟩ := cellsY5 NS4.out
                refine wp_seq_k fun K hK => ?_
                have HK := TW.hide hK
                clear hK
                go_wp2_with fail
                refine (HC3.out W4 NB.out).mono ?_
                rintro e5 W5 ⟨rfl, hb⟩
                have NS5 := TW.hide (blk_keep NS4.out hb)
                have NBn : Hid (Below w.heap.size w W5) := NB.out.trans (hb.mono NB.out.size)
                have y1 := keepC hb y1
                have y2 := keepC hb y2
                have y3 := keepC hb y3
                have y4 := keepC hb y4
                clear NB hb NS4 HC3 t0 t1 t2 t3 t4
                have NB := NBn
                clear NBn
                go_wp2
                refine HK.out _ _ ?_
                clear HK
                obtain ⟨t0, t1, t2, t3, t4⟩ := cellsY5 NS5.out
                refine wp_seq_k fun K hK => ?_
                have HK := TW.hide hK
                clear hK
                go_wp2_with fail
                refine (HC4.out W5 NB.out).mono ?_
                rintro e6 W6 ⟨rfl, hb⟩
                have NS6 := TW.hide (blk_keep NS5.out hb)
                have NBn : Hid (Below w.heap.size w W6) := NB.out.trans (hb.mono NB.out.size)
                have y1 := keepC hb y1
                have y2 := keepC hb y2
                have y3 := keepC hb y3
                have y4 := keepC hb y4
                clear NB hb NS5 HC4 t0 t1 t2 t3 t4
                have NB := NBn
                clear NBn
                go_wp2
                refine HK.out _ _ ?_
                clear HK
                clear NS6
                by_cases hij : i = j
                · obtain rfl : a = false := by rw [HBa.out]; exact decide_eq_false (fun h => h.1 hij)
                  have kij : ((i : Int) != (j : Int)) = false := by simp [hij]
                  have kge : (j : Int) ≤ (i : Int) := by omega
                  have hww : (wi : Int) = (wj : Int) := by rw [← HWi.out, ← HWj.out, hij]
                  have kw : ((wi : Int) != (wj : Int)) = false := by simp [hww]
                  clear hij hww HBa HLt HTr HOw
                  refine wp_seq_k fun K hK => ?_
                  have HK := TW.hide hK
                  clear hK
                  go_wp2
                  refine HK.out _ _ ?_
                  clear HK
                  obtain ⟨eb, eo, wh1, op1, a1, va1, sh1, hla, hev1, _, _, _, _, x0, x1, x2, x3, x4⟩ := (HEv.out.below NB.out).get i HIl.out
                  obtain ⟨eb', eo', wh2, op2, a2, va2, sh2, hla2, hev2, _, _, _, _, u0, u1, u2, u3, u4⟩ := (HEv.out.below NB.out).get j HJl.out
                  rw [hla] at hla2
                  injection hla2 with hla2
                  injection hla2 with hla3 hla4
                  subst hla3 hla4
                  subst hla
                  obtain rfl : wh1 = (wi : Int) := by have := HWi.out; rw [hev1] at this; exact this
                  obtain rfl : wh2 = (wj : Int) := by have := HWj.out; rw [hev2] at this; exact this
                  clear hev1 hev2 x1 x2 x3 x4 u1 u2 u3 u4
                  refine wp_seq_k fun K hK => ?_
                  have HK := TW.hide hK
                  clear hK
                  go_wp2
                  go_quiet (fail)
                  go_wp2
                  refine HK.out _ _ ?_
                  clear HK x0 u0
                  have hq : Below W6.heap.size W6 (W6.drewN nq) := below_drewN (Below.refl _ _) _
                  have NBy : Hid (Below w.heap.size w (W6.drewN nq)) := NB.out.trans (hq.mono NB.out.size)
                  have y1 := keepC hq y1
                  have y2 := keepC hq y2
                  have y3 := keepC hq y3
                  have y4 := keepC hq y4
                  clear hq NB
                  generalize W6.drewN nq = Y at *
                  refine wp_seq_k fun K hK => ?_
                  have HK := TW.hide hK
                  clear hK
                  go_wp2
                  refine HK.out _ _ ?_
                  clear HK
                  have HX : Hid (Below Y.heap.size Y Y) := Below.refl _ _
                  refine wp_seq_k fun K hK => ?_
                  have HK := TW.hide hK
                  clear hK
                  refine wp_region_noPanic ?_
                  refine RG.wp_region_L (fun Z => True) (fun Z => Below Y.heap.size Y Z) [] (by kernel_rfl) ?_
                  refine RG.wpL_any fun Yz1 hY => ?_
                  have HTz1 : Hid (Below Y.heap.size Y Yz1) := by rw [hY]; exact below_drewN HX.out 1
                  clear hY
                  refine RG.wpL_take (fuel := 0) (a' := ?Az1) [0, 1, 2, 3, 4, 5, 6, 7, 8, 9, 10, 11, 12, 13, 14, 15, 16, 17, 18, 19, 20, 21, 22, 23, 24, 25, 26, 27, 28, 29, 30, 31, 32, 33, 34, 35] (by kernel_rfl) (by kernel_rfl) (fun _ _ _ _ _ h => h) HTz1.out (fun _ => trivial) ?rz1 ?_
                  case rz1 =>
                    refine RG.RunsIf.weak (v := ?_) (by rfl) (by rfl) (fun Z hT => ?_) ?_
                    rotate_left
                    · go_simp
                      rfl
                    simp only [Act.put, List.setIfInBounds_toArray, List.set_cons_zero, List.set_cons_succ, List.getElem_toArray, List.getElem_cons_zero, List.getElem_cons_succ]
                    refine RG.RunsIf.weak (v := ?_) (by rfl) (by rfl) (fun Z hT => ?_) ?_
                    rotate_left
                    · go_simp
                      rfl
                    simp only [Act.put, List.setIfInBounds_toArray, List.set_cons_zero, List.set_cons_succ, List.getElem_toArray, List.getElem_cons_zero, List.getElem_cons_succ]
                    refine RG.RunsIf.weak (v := ?_) (by rfl) (by rfl) (fun Z hT => ?_) ?_
                    rotate_left
                    · go_simp
                      rfl
                    simp only [Act.put, List.setIfInBounds_toArray, List.set_cons_zero, List.set_cons_succ, List.getElem_toArray, List.getElem_cons_zero, List.getElem_cons_succ]
                    refine RG.RunsIf.weak (v := .bool false) (by rfl) (by rfl) (fun Z hT => ?_) ?_
                    · go_simp
                    simp only [Act.put, List.setIfInBounds_toArray, List.set_cons_zero, List.set_cons_succ, List.getElem_toArray, List.getElem_cons_zero, List.getElem_cons_succ]
                    refine RG.RunsIf.weak (v := .bool false) (by rfl) (by rfl) (fun Z hT => ?_) ?_
                    · go_simp
                    simp only [Act.put, List.setIfInBounds_toArray, List.set_cons_zero, List.set_cons_succ, List.getElem_toArray, List.getElem_cons_zero, List.getElem_cons_succ]
                    refine RG.RunsIf.skip (by rfl) (by rfl) ?_
                    simp only [Act.put, List.setIfInBounds_toArray, List.set_cons_zero, List.set_cons_succ, List.getElem_toArray, List.getElem_cons_zero, List.getElem_cons_succ]
                    refine RG.RunsIf.skip (by rfl) (by rfl) ?_
                    simp only [Act.put, List.setIfInBounds_toArray, List.set_cons_zero, List.set_cons_succ, List.getElem_toArray, List.getElem_cons_zero, List.getElem_cons_succ]
                    refine RG.RunsIf.skip (by rfl) (by rfl) ?_
                    simp only [Act.put, List.setIfInBounds_toArray, List.set_cons_zero, List.set_cons_succ, List.getElem_toArray, List.getElem_cons_zero, List.getElem_cons_succ]
                    refine RG.RunsIf.skip (by rfl) (by rfl) ?_
                    simp only [Act.put, List.setIfInBounds_toArray, List.set_cons_zero, List.set_cons_succ, List.getElem_toArray, List.getElem_cons_zero, List.getElem_cons_succ]
                    refine RG.RunsIf.skip (by rfl) (by rfl) ?_
                    simp only [Act.put, List.setIfInBounds_toArray, List.set_cons_zero, List.set_cons_succ, List.getElem_toArray, List.getElem_cons_zero, List.getElem_cons_succ]
                    refine RG.RunsIf.skip (by rfl) (by rfl) ?_
                    simp only [Act.put, List.setIfInBounds_toArray, List.set_cons_zero, List.set_cons_succ, List.getElem_toArray, List.getElem_cons_zero, List.getElem_cons_succ]
                    refine RG.RunsIf.skip (by rfl) (by rfl) ?_
                    simp only [Act.put, List.setIfInBounds_toArray, List.set_cons_zero, List.set_cons_succ, List.getElem_toArray, List.getElem_cons_zero, List.getElem_cons_succ]
                    refine RG.RunsIf.skip (by rfl) (by rfl) ?_
                    simp only [Act.put, List.setIfInBounds_toArray, List.set_cons_zero, List.set_cons_succ, List.getElem_toArray, List.getElem_cons_zero, List.getElem_cons_succ]
                    refine RG.RunsIf.skip (by rfl) (by rfl) ?_
                    simp only [Act.put, List.setIfInBounds_toArray, List.set_cons_zero, List.set_cons_succ, List.getElem_toArray, List.getElem_cons_zero, List.getElem_cons_succ]
                    refine RG.RunsIf.skip (by rfl) (by rfl) ?_
                    simp only [Act.put, List.setIfInBounds_toArray, List.set_cons_zero, List.set_cons_succ, List.getElem_toArray, List.getElem_cons_zero, List.getElem_cons_succ]
                    refine RG.RunsIf.skip (by rfl) (by rfl) ?_
                    simp only [Act.put, List.setIfInBounds_toArray, List.set_cons_zero, List.set_cons_succ, List.getElem_toArray, List.getElem_cons_zero, List.getElem_cons_succ]
                    refine RG.RunsIf.skip (by rfl) (by rfl) ?_
                    simp only [Act.put, List.setIfInBounds_toArray, List.set_cons_zero, List.set_cons_succ, List.getElem_toArray, List.getElem_cons_zero, List.getElem_cons_succ]
                    refine RG.RunsIf.skip (by rfl) (by rfl) ?_
                    simp only [Act.put, List.setIfInBounds_toArray, List.set_cons_zero, List.set_cons_succ, List.getElem_toArray, List.getElem_cons_zero, List.getElem_cons_succ]
                    refine RG.RunsIf.skip (by rfl) (by rfl) ?_
                    simp only [Act.put, List.setIfInBounds_toArray, List.set_cons_zero, List.set_cons_succ, List.getElem_toArray, List.getElem_cons_zero, List.getElem_cons_succ]
                    refine RG.RunsIf.skip (by rfl) (by rfl) ?_
                    simp only [Act.put, List.setIfInBounds_toArray, List.set_cons_zero, List.set_cons_succ, List.getElem_toArray, List.getElem_cons_zero, List.getElem_cons_succ]
                    refine RG.RunsIf.weak (v := .bool false) (by rfl) (by rfl) (fun Z hT => ?_) ?_
                    · (go_simp) <;> rfl
                    simp only [Act.put, List.setIfInBounds_toArray, List.set_cons_zero, List.set_cons_succ, List.getElem_toArray, List.getElem_cons_zero, List.getElem_cons_succ]
                    refine RG.RunsIf.weak (v := .bool true) (by rfl) (by rfl) (fun Z hT => ?_) ?_
                    · go_simp
                    simp only [Act.put, List.setIfInBounds_toArray, List.set_cons_zero, List.set_cons_succ, List.getElem_toArray, List.getElem_cons_zero, List.getElem_cons_succ]
                    refine RG.RunsIf.weak (v := .bool true) (by rfl) (by rfl) (fun Z hT => ?_) ?_
                    · go_simp
                    simp only [Act.put, List.setIfInBounds_toArray, List.set_cons_zero, List.set_cons_succ, List.getElem_toArray, List.getElem_cons_zero, List.getElem_cons_succ]
                    refine RG.RunsIf.weak (v := ?_) (by rfl) (by rfl) (fun Z hT => ?_) ?_
                    rotate_left
                    · go_simp
                      rfl
                    simp only [Act.put, List.setIfInBounds_toArray, List.set_cons_zero, List.set_cons_succ, List.getElem_toArray, List.getElem_cons_zero, List.getElem_cons_succ]
                    refine RG.RunsIf.weak (v := ?_) (by rfl) (by rfl) (fun Z hT => ?_) ?_
                    rotate_left
                    · go_simp
                      rfl
                    simp only [Act.put, List.setIfInBounds_toArray, List.set_cons_zero, List.set_cons_succ, List.getElem_toArray, List.getElem_cons_zero, List.getElem_cons_succ]
                    refine RG.RunsIf.weak (v := .bool false) (by rfl) (by rfl) (fun Z hT => ?_) ?_
                    · go_simp
                    simp only [Act.put, List.setIfInBounds_toArray, List.set_cons_zero, List.set_cons_succ, List.getElem_toArray, List.getElem_cons_zero, List.getElem_cons_succ]
                    refine RG.RunsIf.weak (v := .bool false) (by rfl) (by rfl) (fun Z hT => ?_) ?_
                    · go_simp
                    simp only [Act.put, List.setIfInBounds_toArray, List.set_cons_zero, List.set_cons_succ, List.getElem_toArray, List.getElem_cons_zero, List.getElem_cons_succ]
                    refine RG.RunsIf.weak (v := ?_) (by rfl) (by rfl) (fun Z hT => ?_) ?_
                    rotate_left
                    · go_simp
                      rfl
                    simp only [Act.put, List.setIfInBounds_toArray, List.set_cons_zero, List.set_cons_succ, List.getElem_toArray, List.getElem_cons_zero, List.getElem_cons_succ]
                    refine RG.RunsIf.weak (v := ?_) (by rfl) (by rfl) (fun Z hT => ?_) ?_
                    rotate_left
                    · go_simp
                      rfl
                    simp only [Act.put, List.setIfInBounds_toArray, List.set_cons_zero, List.set_cons_succ, List.getElem_toArray, List.getElem_cons_zero, List.getElem_cons_succ]
                    refine RG.RunsIf.weak (v := .bool true) (by rfl) (by rfl) (fun Z hT => ?_) ?_
                    · go_simp
                    simp only [Act.put, List.setIfInBounds_toArray, List.set_cons_zero, List.set_cons_succ, List.getElem_toArray, List.getElem_cons_zero, List.getElem_cons_succ]
                    refine RG.RunsIf.weak (v := .bool true) (by rfl) (by rfl) (fun Z hT => ?_) ?_
                    · (go_simp) <;> rfl
                    simp only [Act.put, List.setIfInBounds_toArray, List.set_cons_zero, List.set_cons_succ, List.getElem_toArray, List.getElem_cons_zero, List.getElem_cons_succ]
                    refine RG.RunsIf.weak (v := .bool true) (by rfl) (by rfl) (fun Z hT => ?_) ?_
                    · go_simp
                    simp only [Act.put, List.setIfInBounds_toArray, List.set_cons_zero, List.set_cons_succ, List.getElem_toArray, List.getElem_cons_zero, List.getElem_cons_succ]
                    refine RG.RunsIf.skip (by rfl) (by rfl) ?_
                    simp only [Act.put, List.setIfInBounds_toArray, List.set_cons_zero, List.set_cons_succ, List.getElem_toArray, List.getElem_cons_zero, List.getElem_cons_succ]
                    refine RG.RunsIf.weak (v := .bool true) (by rfl) (by rfl) (fun Z hT => ?_) ?_
                    · (go_simp) <;> rfl
                    simp only [Act.put, List.setIfInBounds_toArray, List.set_cons_zero, List.set_cons_succ, List.getElem_toArray, List.getElem_cons_zero, List.getElem_cons_succ]
                    refine RG.RunsIf.weak (v := .bool true) (by rfl) (by rfl) (fun Z hT => ?_) ?_
                    · (go_simp) <;> rfl
                    simp only [Act.put, List.setIfInBounds_toArray, List.set_cons_zero, List.set_cons_succ, List.getElem_toArray, List.getElem_cons_zero, List.getElem_cons_succ]
                    refine RG.RunsIf.weak (v := ?_) (by rfl) (by rfl) (fun Z hT => ?_) ?_
                    rotate_left
                    · go_simp
                      rfl
                    simp only [Act.put, List.setIfInBounds_toArray, List.set_cons_zero, List.set_cons_succ, List.getElem_toArray, List.getElem_cons_zero, List.getElem_cons_succ]
                    exact RG.RunsIf.nil
                  refine RG.wpL_done (by kernel_rfl) ?_ _
                  refine NoPanic.normal ?_
                  refine HK.out _ _ ?_
                  clear HK
                  go_wp2
                  go_ret
                  exact ⟨rfl, NBy.out.trans (HTz1.out.mono NBy.out.size)⟩
                · have kij : ((i : Int) != (j : Int)) = true := by simp; omega
                  by_cases hw : wi = wj
                  · have kw : ((wi : Int) != (wj : Int)) = false := by simp [hw]
                    by_cases hgt : i < j
                    · obtain rfl : a = true := HOw.out hgt hw
                      have klt : (i : Int) < (j : Int) := by omega
                      have kc : ci ≤ cj := by have := HBa.out; exact (of_decide_eq_true this.symm).2
                      cases b with
                      | false =>
                        clear hij hw hgt HBa HLt HTr HOw
                        refine wp_seq_k fun K hK => ?_
                        have HK := TW.hide hK
                        clear hK
                        go_wp2
                        refine HK.out _ _ ?_
                        clear HK
                        obtain ⟨eb, eo, wh1, op1, a1, va1, sh1, hla, hev1, _, _, _, _, x0, x1, x2, x3, x4⟩ := (HEv.out.below NB.out).get i HIl.out
                        obtain ⟨eb', eo', wh2, op2, a2, va2, sh2, hla2, hev2, _, _, _, _, u0, u1, u2, u3, u4⟩ := (HEv.out.below NB.out).get j HJl.out
                        rw [hla] at hla2
                        injection hla2 with hla2
                        injection hla2 with hla3 hla4
                        subst hla3 hla4
                        subst hla
                        obtain rfl : wh1 = (wi : Int) := by have := HWi.out; rw [hev1] at this; exact this
                        obtain rfl : wh2 = (wj : Int) := by have := HWj.out; rw [hev2] at this; exact this
                        clear hev1 hev2 x1 x2 x3 x4 u1 u2 u3 u4
                        refine wp_seq_k fun K hK => ?_
                        have HK := TW.hide hK
                        clear hK
                        go_wp2
                        go_quiet (fail)
                        go_wp2
                        refine HK.out _ _ ?_
                        clear HK x0 u0
                        have hq : Below W6.heap.size W6 (W6.drewN nq) := below_drewN (Below.refl _ _) _
                        have NBy : Hid (Below w.heap.size w (W6.drewN nq)) := NB.out.trans (hq.mono NB.out.size)
                        have y1 := keepC hq y1
                        have y2 := keepC hq y2
                        have y3 := keepC hq y3
                        have y4 := keepC hq y4
                        clear hq NB
                        generalize W6.drewN nq = Y at *
                        refine wp_seq_k fun K hK => ?_
                        have HK := TW.hide hK
                        clear hK
                        go_wp2
                        refine HK.out _ _ ?_
                        clear HK
                        have HX : Hid (Below Y.heap.size Y Y) := Below.refl _ _
                        refine wp_seq_k fun K hK => ?_
                        have HK := TW.hide hK
                        clear hK
                        refine wp_region_noPanic ?_
                        refine RG.wp_region_L (fun Z => True) (fun Z => Below Y.heap.size Y Z) [] (by kernel_rfl) ?_
                        refine RG.wpL_any fun Yz2 hY => ?_
                        have HTz2 : Hid (Below Y.heap.size Y Yz2) := by rw [hY]; exact below_drewN HX.out 1
                        clear hY
                        refine RG.wpL_take (fuel := 0) (a' := ?Az2) [0, 1, 2, 3, 4, 5, 6, 7, 8, 9, 10, 11, 12, 13, 14, 15, 16, 17, 18, 19, 20, 21, 22, 23, 24, 25, 26, 27, 28, 29, 30, 31, 32, 33, 34, 35] (by kernel_rfl) (by kernel_rfl) (fun _ _ _ _ _ h => h) HTz2.out (fun _ => trivial) ?rz2 ?_
                        case rz2 =>
                          refine RG.RunsIf.weak (v := ?_) (by rfl) (by rfl) (fun Z hT => ?_) ?_
                          rotate_left
                          · go_simp
                            rfl
                          simp only [Act.put, List.setIfInBounds_toArray, List.set_cons_zero, List.set_cons_succ, List.getElem_toArray, List.getElem_cons_zero, List.getElem_cons_succ]
                          refine RG.RunsIf.weak (v := ?_) (by rfl) (by rfl) (fun Z hT => ?_) ?_
                          rotate_left
                          · go_simp
                            rfl
                          simp only [Act.put, List.setIfInBounds_toArray, List.set_cons_zero, List.set_cons_succ, List.getElem_toArray, List.getElem_cons_zero, List.getElem_cons_succ]
                          refine RG.RunsIf.weak (v := ?_) (by rfl) (by rfl) (fun Z hT => ?_) ?_
                          rotate_left
                          · go_simp
                            rfl
                          simp only [Act.put, List.setIfInBounds_toArray, List.set_cons_zero, List.set_cons_succ, List.getElem_toArray, List.getElem_cons_zero, List.getElem_cons_succ]
                          refine RG.RunsIf.weak (v := .bool true) (by rfl) (by rfl) (fun Z hT => ?_) ?_
                          · go_simp
                          simp only [Act.put, List.setIfInBounds_toArray, List.set_cons_zero, List.set_cons_succ, List.getElem_toArray, List.getElem_cons_zero, List.getElem_cons_succ]
                          refine RG.RunsIf.weak (v := .bool true) (by rfl) (by rfl) (fun Z hT => ?_) ?_
                          · go_simp
                          simp only [Act.put, List.setIfInBounds_toArray, List.set_cons_zero, List.set_cons_succ, List.getElem_toArray, List.getElem_cons_zero, List.getElem_cons_succ]
                          refine RG.RunsIf.weak (v := ?_) (by rfl) (by rfl) (fun Z hT => ?_) ?_
                          rotate_left
                          · go_simp
                            rfl
                          simp only [Act.put, List.setIfInBounds_toArray, List.set_cons_zero, List.set_cons_succ, List.getElem_toArray, List.getElem_cons_zero, List.getElem_cons_succ]
                          refine RG.RunsIf.weak (v := ?_) (by rfl) (by rfl) (fun Z hT => ?_) ?_
                          rotate_left
                          · go_simp
                            rfl
                          simp only [Act.put, List.setIfInBounds_toArray, List.set_cons_zero, List.set_cons_succ, List.getElem_toArray, List.getElem_cons_zero, List.getElem_cons_succ]
                          refine RG.RunsIf.weak (v := ?_) (by rfl) (by rfl) (fun Z hT => ?_) ?_
                          rotate_left
                          · go_simp
                            rfl
                          simp only [Act.put, List.setIfInBounds_toArray, List.set_cons_zero, List.set_cons_succ, List.getElem_toArray, List.getElem_cons_zero, List.getElem_cons_succ]
                          refine RG.RunsIf.weak (v := .slice (some ⟨b3, o3, none⟩) rn c3) (by rfl) (by rfl) (fun Z hT => ?_) ?_
                          · have y1 := keepC hT y1; have y2 := keepC hT y2; have y3 := keepC hT y3; have y4 := keepC hT y4
                            go_simp
                          simp only [Act.put, List.setIfInBounds_toArray, List.set_cons_zero, List.set_cons_succ, List.getElem_toArray, List.getElem_cons_zero, List.getElem_cons_succ]
                          refine RG.RunsIf.weak (v := ?_) (by rfl) (by rfl) (fun Z hT => ?_) ?_
                          rotate_left
                          · go_simp
                            rfl
                          simp only [Act.put, List.setIfInBounds_toArray, List.set_cons_zero, List.set_cons_succ, List.getElem_toArray, List.getElem_cons_zero, List.getElem_cons_succ]
                          refine RG.RunsIf.weak (v := ?_) (by rfl) (by rfl) (fun Z hT => ?_) ?_
                          rotate_left
                          · go_simp
                            rfl
                          simp only [Act.put, List.setIfInBounds_toArray, List.set_cons_zero, List.set_cons_succ, List.getElem_toArray, List.getElem_cons_zero, List.getElem_cons_succ]
                          refine RG.RunsIf.weak (v := .int .i64 cj) (by rfl) (by rfl) (fun Z hT => ?_) ?_
                          · have y1 := keepC hT y1; have y2 := keepC hT y2; have y3 := keepC hT y3; have y4 := keepC hT y4
                            go_simp
                          simp only [Act.put, List.setIfInBounds_toArray, List.set_cons_zero, List.set_cons_succ, List.getElem_toArray, List.getElem_cons_zero, List.getElem_cons_succ]
                          refine RG.RunsIf.weak (v := ?_) (by rfl) (by rfl) (fun Z hT => ?_) ?_
                          rotate_left
                          · go_simp
                            rfl
                          simp only [Act.put, List.setIfInBounds_toArray, List.set_cons_zero, List.set_cons_succ, List.getElem_toArray, List.getElem_cons_zero, List.getElem_cons_succ]
                          refine RG.RunsIf.weak (v := ?_) (by rfl) (by rfl) (fun Z hT => ?_) ?_
                          rotate_left
                          · go_simp
                            rfl
                          simp only [Act.put, List.setIfInBounds_toArray, List.set_cons_zero, List.set_cons_succ, List.getElem_toArray, List.getElem_cons_zero, List.getElem_cons_succ]
                          refine RG.RunsIf.weak (v := ?_) (by rfl) (by rfl) (fun Z hT => ?_) ?_
                          rotate_left
                          · go_simp
                            rfl
                          simp only [Act.put, List.setIfInBounds_toArray, List.set_cons_zero, List.set_cons_succ, List.getElem_toArray, List.getElem_cons_zero, List.getElem_cons_succ]
                          refine RG.RunsIf.weak (v := .slice (some ⟨b2, o2, none⟩) rn c2) (by rfl) (by rfl) (fun Z hT => ?_) ?_
                          · have y1 := keepC hT y1; have y2 := keepC hT y2; have y3 := keepC hT y3; have y4 := keepC hT y4
                            go_simp
                          simp only [Act.put, List.setIfInBounds_toArray, List.set_cons_zero, List.set_cons_succ, List.getElem_toArray, List.getElem_cons_zero, List.getElem_cons_succ]
                          refine RG.RunsIf.weak (v := ?_) (by rfl) (by rfl) (fun Z hT => ?_) ?_
                          rotate_left
                          · go_simp
                            rfl
                          simp only [Act.put, List.setIfInBounds_toArray, List.set_cons_zero, List.set_cons_succ, List.getElem_toArray, List.getElem_cons_zero, List.getElem_cons_succ]
                          refine RG.RunsIf.weak (v := ?_) (by rfl) (by rfl) (fun Z hT => ?_) ?_
                          rotate_left
                          · go_simp
                            rfl
                          simp only [Act.put, List.setIfInBounds_toArray, List.set_cons_zero, List.set_cons_succ, List.getElem_toArray, List.getElem_cons_zero, List.getElem_cons_succ]
                          refine RG.RunsIf.weak (v := .int .i64 ci) (by rfl) (by rfl) (fun Z hT => ?_) ?_
                          · have y1 := keepC hT y1; have y2 := keepC hT y2; have y3 := keepC hT y3; have y4 := keepC hT y4
                            go_simp
                          simp only [Act.put, List.setIfInBounds_toArray, List.set_cons_zero, List.set_cons_succ, List.getElem_toArray, List.getElem_cons_zero, List.getElem_cons_succ]
                          refine RG.RunsIf.weak (v := .bool true) (by rfl) (by rfl) (fun Z hT => ?_) ?_
                          · go_simp
                          simp only [Act.put, List.setIfInBounds_toArray, List.set_cons_zero, List.set_cons_succ, List.getElem_toArray, List.getElem_cons_zero, List.getElem_cons_succ]
                          refine RG.RunsIf.weak (v := .bool true) (by rfl) (by rfl) (fun Z hT => ?_) ?_
                          · (go_simp) <;> rfl
                          simp only [Act.put, List.setIfInBounds_toArray, List.set_cons_zero, List.set_cons_succ, List.getElem_toArray, List.getElem_cons_zero, List.getElem_cons_succ]
                          refine RG.RunsIf.weak (v := .bool true) (by rfl) (by rfl) (fun Z hT => ?_) ?_
                          · go_simp
                          simp only [Act.put, List.setIfInBounds_toArray, List.set_cons_zero, List.set_cons_succ, List.getElem_toArray, List.getElem_cons_zero, List.getElem_cons_succ]
                          refine RG.RunsIf.weak (v := .bool true) (by rfl) (by rfl) (fun Z hT => ?_) ?_
                          · go_simp
                          simp only [Act.put, List.setIfInBounds_toArray, List.set_cons_zero, List.set_cons_succ, List.getElem_toArray, List.getElem_cons_zero, List.getElem_cons_succ]
                          refine RG.RunsIf.weak (v := ?_) (by rfl) (by rfl) (fun Z hT => ?_) ?_
                          rotate_left
                          · go_simp
                            rfl
                          simp only [Act.put, List.setIfInBounds_toArray, List.set_cons_zero, List.set_cons_succ, List.getElem_toArray, List.getElem_cons_zero, List.getElem_cons_succ]
                          refine RG.RunsIf.weak (v := ?_) (by rfl) (by rfl) (fun Z hT => ?_) ?_
                          rotate_left
                          · go_simp
                            rfl
                          simp only [Act.put, List.setIfInBounds_toArray, List.set_cons_zero, List.set_cons_succ, List.getElem_toArray, List.getElem_cons_zero, List.getElem_cons_succ]
                          refine RG.RunsIf.weak (v := .bool false) (by rfl) (by rfl) (fun Z hT => ?_) ?_
                          · go_simp
                          simp only [Act.put, List.setIfInBounds_toArray, List.set_cons_zero, List.set_cons_succ, List.getElem_toArray, List.getElem_cons_zero, List.getElem_cons_succ]
                          refine RG.RunsIf.weak (v := .bool false) (by rfl) (by rfl) (fun Z hT => ?_) ?_
                          · go_simp
                          simp only [Act.put, List.setIfInBounds_toArray, List.set_cons_zero, List.set_cons_succ, List.getElem_toArray, List.getElem_cons_zero, List.getElem_cons_succ]
                          refine RG.RunsIf.weak (v := ?_) (by rfl) (by rfl) (fun Z hT => ?_) ?_
                          rotate_left
                          · go_simp
                            rfl
                          simp only [Act.put, List.setIfInBounds_toArray, List.set_cons_zero, List.set_cons_succ, List.getElem_toArray, List.getElem_cons_zero, List.getElem_cons_succ]
                          refine RG.RunsIf.weak (v := ?_) (by rfl) (by rfl) (fun Z hT => ?_) ?_
                          rotate_left
                          · go_simp
                            rfl
                          simp only [Act.put, List.setIfInBounds_toArray, List.set_cons_zero, List.set_cons_succ, List.getElem_toArray, List.getElem_cons_zero, List.getElem_cons_succ]
                          refine RG.RunsIf.weak (v := .bool false) (by rfl) (by rfl) (fun Z hT => ?_) ?_
                          · go_simp
                          simp only [Act.put, List.setIfInBounds_toArray, List.set_cons_zero, List.set_cons_succ, List.getElem_toArray, List.getElem_cons_zero, List.getElem_cons_succ]
                          refine RG.RunsIf.weak (v := .bool false) (by rfl) (by rfl) (fun Z hT => ?_) ?_
                          · (go_simp) <;> rfl
                          simp only [Act.put, List.setIfInBounds_toArray, List.set_cons_zero, List.set_cons_succ, List.getElem_toArray, List.getElem_cons_zero, List.getElem_cons_succ]
                          refine RG.RunsIf.weak (v := .bool false) (by rfl) (by rfl) (fun Z hT => ?_) ?_
                          · go_simp
                          simp only [Act.put, List.setIfInBounds_toArray, List.set_cons_zero, List.set_cons_succ, List.getElem_toArray, List.getElem_cons_zero, List.getElem_cons_succ]
                          refine RG.RunsIf.weak (v := .bool true) (by rfl) (by rfl) (fun Z hT => ?_) ?_
                          · go_simp
                          simp only [Act.put, List.setIfInBounds_toArray, List.set_cons_zero, List.set_cons_succ, List.getElem_toArray, List.getElem_cons_zero, List.getElem_cons_succ]
                          refine RG.RunsIf.weak (v := .bool true) (by rfl) (by rfl) (fun Z hT => ?_) ?_
                          · (go_simp) <;> rfl
                          simp only [Act.put, List.setIfInBounds_toArray, List.set_cons_zero, List.set_cons_succ, List.getElem_toArray, List.getElem_cons_zero, List.getElem_cons_succ]
                          refine RG.RunsIf.weak (v := .bool true) (by rfl) (by rfl) (fun Z hT => ?_) ?_
                          · (go_simp) <;> rfl
                          simp only [Act.put, List.setIfInBounds_toArray, List.set_cons_zero, List.set_cons_succ, List.getElem_toArray, List.getElem_cons_zero, List.getElem_cons_succ]
                          refine RG.RunsIf.weak (v := ?_) (by rfl) (by rfl) (fun Z hT => ?_) ?_
                          rotate_left
                          · go_simp
                            rfl
                          simp only [Act.put, List.setIfInBounds_toArray, List.set_cons_zero, List.set_cons_succ, List.getElem_toArray, List.getElem_cons_zero, List.getElem_cons_succ]
                          exact RG.RunsIf.nil
                        refine RG.wpL_done (by kernel_rfl) ?_ _
                        refine NoPanic.normal ?_
                        refine HK.out _ _ ?_
                        clear HK
                        go_wp2
                        go_ret
                        exact ⟨rfl, NBy.out.trans (HTz2.out.mono NBy.out.size)⟩
                      | true =>
                        obtain rfl : d = true := HTr.out rfl rfl
                        clear hij hw hgt HBa HLt HTr HOw
                        refine wp_seq_k fun K hK => ?_
                        have HK := TW.hide hK
                        clear hK
                        go_wp2
                        refine HK.out _ _ ?_
                        clear HK
                        obtain ⟨eb, eo, wh1, op1, a1, va1, sh1, hla, hev1, _, _, _, _, x0, x1, x2, x3, x4⟩ := (HEv.out.below NB.out).get i HIl.out
                        obtain ⟨eb', eo', wh2, op2, a2, va2, sh2, hla2, hev2, _, _, _, _, u0, u1, u2, u3, u4⟩ := (HEv.out.below NB.out).get j HJl.out
                        rw [hla] at hla2
                        injection hla2 with hla2
                        injection hla2 with hla3 hla4
                        subst hla3 hla4
                        subst hla
                        obtain rfl : wh1 = (wi : Int) := by have := HWi.out; rw [hev1] at this; exact this
                        obtain rfl : wh2 = (wj : Int) := by have := HWj.out; rw [hev2] at this; exact this
                        clear hev1 hev2 x1 x2 x3 x4 u1 u2 u3 u4
                        refine wp_seq_k fun K hK => ?_
                        have HK := TW.hide hK
                        clear hK
                        go_wp2
                        go_quiet (fail)
                        go_wp2
                        refine HK.out _ _ ?_
                        clear HK x0 u0
                        have hq : Below W6.heap.size W6 (W6.drewN nq) := below_drewN (Below.refl _ _) _
                        have NBy : Hid (Below w.heap.size w (W6.drewN nq)) := NB.out.trans (hq.mono NB.out.size)
                        have y1 := keepC hq y1
                        have y2 := keepC hq y2
                        have y3 := keepC hq y3
                        have y4 := keepC hq y4
                        clear hq NB
                        generalize W6.drewN nq = Y at *
                        refine wp_seq_k fun K hK => ?_
                        have HK := TW.hide hK
                        clear hK
                        go_wp2
                        refine HK.out _ _ ?_
                        clear HK
                        have HX : Hid (Below Y.heap.size Y Y) := Below.refl _ _
                        refine wp_seq_k fun K hK => ?_
                        have HK := TW.hide hK
                        clear hK
                        refine wp_region_noPanic ?_
                        refine RG.wp_region_L (fun Z => True) (fun Z => Below Y.heap.size Y Z) [] (by kernel_rfl) ?_
                        refine RG.wpL_any fun Yz3 hY => ?_
                        have HTz3 : Hid (Below Y.heap.size Y Yz3) := by rw [hY]; exact below_drewN HX.out 1
                        clear hY
                        refine RG.wpL_take (fuel := 0) (a' := ?Az3) [0, 1, 2, 3, 4, 5, 6, 7, 8, 9, 10, 11, 12, 13, 14, 15, 16, 17, 18, 19, 20, 21, 22, 23, 24, 25, 26, 27, 28, 29, 30, 31, 32, 33, 34, 35] (by kernel_rfl) (by kernel_rfl) (fun _ _ _ _ _ h => h) HTz3.out (fun _ => trivial) ?rz3 ?_
                        case rz3 =>
                          refine RG.RunsIf.weak (v := ?_) (by rfl) (by rfl) (fun Z hT => ?_) ?_
                          rotate_left
                          · go_simp
                            rfl
                          simp only [Act.put, List.setIfInBounds_toArray, List.set_cons_zero, List.set_cons_succ, List.getElem_toArray, List.getElem_cons_zero, List.getElem_cons_succ]
                          refine RG.RunsIf.weak (v := ?_) (by rfl) (by rfl) (fun Z hT => ?_) ?_
                          rotate_left
                          · go_simp
                            rfl
                          simp only [Act.put, List.setIfInBounds_toArray, List.set_cons_zero, List.set_cons_succ, List.getElem_toArray, List.getElem_cons_zero, List.getElem_cons_succ]
                          refine RG.RunsIf.weak (v := ?_) (by rfl) (by rfl) (fun Z hT => ?_) ?_
                          rotate_left
                          · go_simp
                            rfl
                          simp only [Act.put, List.setIfInBounds_toArray, List.set_cons_zero, List.set_cons_succ, List.getElem_toArray, List.getElem_cons_zero, List.getElem_cons_succ]
                          refine RG.RunsIf.weak (v := .bool true) (by rfl) (by rfl) (fun Z hT => ?_) ?_
                          · go_simp
                          simp only [Act.put, List.setIfInBounds_toArray, List.set_cons_zero, List.set_cons_succ, List.getElem_toArray, List.getElem_cons_zero, List.getElem_cons_succ]
                          refine RG.RunsIf.weak (v := .bool true) (by rfl) (by rfl) (fun Z hT => ?_) ?_
                          · go_simp
                          simp only [Act.put, List.setIfInBounds_toArray, List.set_cons_zero, List.set_cons_succ, List.getElem_toArray, List.getElem_cons_zero, List.getElem_cons_succ]
                          refine RG.RunsIf.weak (v := ?_) (by rfl) (by rfl) (fun Z hT => ?_) ?_
                          rotate_left
                          · go_simp
                            rfl
                          simp only [Act.put, List.setIfInBounds_toArray, List.set_cons_zero, List.set_cons_succ, List.getElem_toArray, List.getElem_cons_zero, List.getElem_cons_succ]
                          refine RG.RunsIf.weak (v := ?_) (by rfl) (by rfl) (fun Z hT => ?_) ?_
                          rotate_left
                          · go_simp
                            rfl
                          simp only [Act.put, List.setIfInBounds_toArray, List.set_cons_zero, List.set_cons_succ, List.getElem_toArray, List.getElem_cons_zero, List.getElem_cons_succ]
                          refine RG.RunsIf.weak (v := ?_) (by rfl) (by rfl) (fun Z hT => ?_) ?_
                          rotate_left
                          · go_simp
                            rfl
                          simp only [Act.put, List.setIfInBounds_toArray, List.set_cons_zero, List.set_cons_succ, List.getElem_toArray, List.getElem_cons_zero, List.getElem_cons_succ]
                          refine RG.RunsIf.weak (v := .slice (some ⟨b3, o3, none⟩) rn c3) (by rfl) (by rfl) (fun Z hT => ?_) ?_
                          · have y1 := keepC hT y1; have y2 := keepC hT y2; have y3 := keepC hT y3; have y4 := keepC hT y4
                            go_simp
                          simp only [Act.put, List.setIfInBounds_toArray, List.set_cons_zero, List.set_cons_succ, List.getElem_toArray, List.getElem_cons_zero, List.getElem_cons_succ]
                          refine RG.RunsIf.weak (v := ?_) (by rfl) (by rfl) (fun Z hT => ?_) ?_
                          rotate_left
                          · go_simp
                            rfl
                          simp only [Act.put, List.setIfInBounds_toArray, List.set_cons_zero, List.set_cons_succ, List.getElem_toArray, List.getElem_cons_zero, List.getElem_cons_succ]
                          refine RG.RunsIf.weak (v := ?_) (by rfl) (by rfl) (fun Z hT => ?_) ?_
                          rotate_left
                          · go_simp
                            rfl
                          simp only [Act.put, List.setIfInBounds_toArray, List.set_cons_zero, List.set_cons_succ, List.getElem_toArray, List.getElem_cons_zero, List.getElem_cons_succ]
                          refine RG.RunsIf.weak (v := .int .i64 cj) (by rfl) (by rfl) (fun Z hT => ?_) ?_
                          · have y1 := keepC hT y1; have y2 := keepC hT y2; have y3 := keepC hT y3; have y4 := keepC hT y4
                            go_simp
                          simp only [Act.put, List.setIfInBounds_toArray, List.set_cons_zero, List.set_cons_succ, List.getElem_toArray, List.getElem_cons_zero, List.getElem_cons_succ]
                          refine RG.RunsIf.weak (v := ?_) (by rfl) (by rfl) (fun Z hT => ?_) ?_
                          rotate_left
                          · go_simp
                            rfl
                          simp only [Act.put, List.setIfInBounds_toArray, List.set_cons_zero, List.set_cons_succ, List.getElem_toArray, List.getElem_cons_zero, List.getElem_cons_succ]
                          refine RG.RunsIf.weak (v := ?_) (by rfl) (by rfl) (fun Z hT => ?_) ?_
                          rotate_left
                          · go_simp
                            rfl
                          simp only [Act.put, List.setIfInBounds_toArray, List.set_cons_zero, List.set_cons_succ, List.getElem_toArray, List.getElem_cons_zero, List.getElem_cons_succ]
                          refine RG.RunsIf.weak (v := ?_) (by rfl) (by rfl) (fun Z hT => ?_) ?_
                          rotate_left
                          · go_simp
                            rfl
                          simp only [Act.put, List.setIfInBounds_toArray, List.set_cons_zero, List.set_cons_succ, List.getElem_toArray, List.getElem_cons_zero, List.getElem_cons_succ]
                          refine RG.RunsIf.weak (v := .slice (some ⟨b2, o2, none⟩) rn c2) (by rfl) (by rfl) (fun Z hT => ?_) ?_
                          · have y1 := keepC hT y1; have y2 := keepC hT y2; have y3 := keepC hT y3; have y4 := keepC hT y4
                            go_simp
                          simp only [Act.put, List.setIfInBounds_toArray, List.set_cons_zero, List.set_cons_succ, List.getElem_toArray, List.getElem_cons_zero, List.getElem_cons_succ]
                          refine RG.RunsIf.weak (v := ?_) (by rfl) (by rfl) (fun Z hT => ?_) ?_
                          rotate_left
                          · go_simp
                            rfl
                          simp only [Act.put, List.setIfInBounds_toArray, List.set_cons_zero, List.set_cons_succ, List.getElem_toArray, List.getElem_cons_zero, List.getElem_cons_succ]
                          refine RG.RunsIf.weak (v := ?_) (by rfl) (by rfl) (fun Z hT => ?_) ?_
                          rotate_left
                          · go_simp
                            rfl
                          simp only [Act.put, List.setIfInBounds_toArray, List.set_cons_zero, List.set_cons_succ, List.getElem_toArray, List.getElem_cons_zero, List.getElem_cons_succ]
                          refine RG.RunsIf.weak (v := .int .i64 ci) (by rfl) (by rfl) (fun Z hT => ?_) ?_
                          · have y1 := keepC hT y1; have y2 := keepC hT y2; have y3 := keepC hT y3; have y4 := keepC hT y4
                            go_simp
                          simp only [Act.put, List.setIfInBounds_toArray, List.set_cons_zero, List.set_cons_succ, List.getElem_toArray, List.getElem_cons_zero, List.getElem_cons_succ]
                          refine RG.RunsIf.weak (v := .bool true) (by rfl) (by rfl) (fun Z hT => ?_) ?_
                          · go_simp
                          simp only [Act.put, List.setIfInBounds_toArray, List.set_cons_zero, List.set_cons_succ, List.getElem_toArray, List.getElem_cons_zero, List.getElem_cons_succ]
                          refine RG.RunsIf.weak (v := .bool true) (by rfl) (by rfl) (fun Z hT => ?_) ?_
                          · (go_simp) <;> rfl
                          simp only [Act.put, List.setIfInBounds_toArray, List.set_cons_zero, List.set_cons_succ, List.getElem_toArray, List.getElem_cons_zero, List.getElem_cons_succ]
                          refine RG.RunsIf.weak (v := .bool true) (by rfl) (by rfl) (fun Z hT => ?_) ?_
                          · go_simp
                          simp only [Act.put, List.setIfInBounds_toArray, List.set_cons_zero, List.set_cons_succ, List.getElem_toArray, List.getElem_cons_zero, List.getElem_cons_succ]
                          refine RG.RunsIf.weak (v := .bool true) (by rfl) (by rfl) (fun Z hT => ?_) ?_
                          · go_simp
                          simp only [Act.put, List.setIfInBounds_toArray, List.set_cons_zero, List.set_cons_succ, List.getElem_toArray, List.getElem_cons_zero, List.getElem_cons_succ]
                          refine RG.RunsIf.weak (v := ?_) (by rfl) (by rfl) (fun Z hT => ?_) ?_
                          rotate_left
                          · go_simp
                            rfl
                          simp only [Act.put, List.setIfInBounds_toArray, List.set_cons_zero, List.set_cons_succ, List.getElem_toArray, List.getElem_cons_zero, List.getElem_cons_succ]
                          refine RG.RunsIf.weak (v := ?_) (by rfl) (by rfl) (fun Z hT => ?_) ?_
                          rotate_left
                          · go_simp
                            rfl
                          simp only [Act.put, List.setIfInBounds_toArray, List.set_cons_zero, List.set_cons_succ, List.getElem_toArray, List.getElem_cons_zero, List.getElem_cons_succ]
                          refine RG.RunsIf.weak (v := .bool false) (by rfl) (by rfl) (fun Z hT => ?_) ?_
                          · go_simp
                          simp only [Act.put, List.setIfInBounds_toArray, List.set_cons_zero, List.set_cons_succ, List.getElem_toArray, List.getElem_cons_zero, List.getElem_cons_succ]
                          refine RG.RunsIf.weak (v := .bool false) (by rfl) (by rfl) (fun Z hT => ?_) ?_
                          · go_simp
                          simp only [Act.put, List.setIfInBounds_toArray, List.set_cons_zero, List.set_cons_succ, List.getElem_toArray, List.getElem_cons_zero, List.getElem_cons_succ]
                          refine RG.RunsIf.weak (v := ?_) (by rfl) (by rfl) (fun Z hT => ?_) ?_
                          rotate_left
                          · go_simp
                            rfl
                          simp only [Act.put, List.setIfInBounds_toArray, List.set_cons_zero, List.set_cons_succ, List.getElem_toArray, List.getElem_cons_zero, List.getElem_cons_succ]
                          refine RG.RunsIf.weak (v := ?_) (by rfl) (by rfl) (fun Z hT => ?_) ?_
                          rotate_left
                          · go_simp
                            rfl
                          simp only [Act.put, List.setIfInBounds_toArray, List.set_cons_zero, List.set_cons_succ, List.getElem_toArray, List.getElem_cons_zero, List.getElem_cons_succ]
                          refine RG.RunsIf.weak (v := .bool false) (by rfl) (by rfl) (fun Z hT => ?_) ?_
                          · go_simp
                          simp only [Act.put, List.setIfInBounds_toArray, List.set_cons_zero, List.set_cons_succ, List.getElem_toArray, List.getElem_cons_zero, List.getElem_cons_succ]
                          refine RG.RunsIf.weak (v := .bool false) (by rfl) (by rfl) (fun Z hT => ?_) ?_
                          · (go_simp) <;> rfl
                          simp only [Act.put, List.setIfInBounds_toArray, List.set_cons_zero, List.set_cons_succ, List.getElem_toArray, List.getElem_cons_zero, List.getElem_cons_succ]
                          refine RG.RunsIf.weak (v := .bool false) (by rfl) (by rfl) (fun Z hT => ?_) ?_
                          · go_simp
                          simp only [Act.put, List.setIfInBounds_toArray, List.set_cons_zero, List.set_cons_succ, List.getElem_toArray, List.getElem_cons_zero, List.getElem_cons_succ]
                          refine RG.RunsIf.weak (v := .bool true) (by rfl) (by rfl) (fun Z hT => ?_) ?_
                          · go_simp
                          simp only [Act.put, List.setIfInBounds_toArray, List.set_cons_zero, List.set_cons_succ, List.getElem_toArray, List.getElem_cons_zero, List.getElem_cons_succ]
                          refine RG.RunsIf.weak (v := .bool true) (by rfl) (by rfl) (fun Z hT => ?_) ?_
                          · (go_simp) <;> rfl
                          simp only [Act.put, List.setIfInBounds_toArray, List.set_cons_zero, List.set_cons_succ, List.getElem_toArray, List.getElem_cons_zero, List.getElem_cons_succ]
                          refine RG.RunsIf.weak (v := .bool true) (by rfl) (by rfl) (fun Z hT => ?_) ?_
                          · (go_simp) <;> rfl
                          simp only [Act.put, List.setIfInBounds_toArray, List.set_cons_zero, List.set_cons_succ, List.getElem_toArray, List.getElem_cons_zero, List.getElem_cons_succ]
                          refine RG.RunsIf.weak (v := ?_) (by rfl) (by rfl) (fun Z hT => ?_) ?_
                          rotate_left
                          · go_simp
                            rfl
                          simp only [Act.put, List.setIfInBounds_toArray, List.set_cons_zero, List.set_cons_succ, List.getElem_toArray, List.getElem_cons_zero, List.getElem_cons_succ]
                          exact RG.RunsIf.nil
                        refine RG.wpL_done (by kernel_rfl) ?_ _
                        refine NoPanic.normal ?_
                        refine HK.out _ _ ?_
                        clear HK
                        go_wp2
                        go_ret
                        exact ⟨rfl, NBy.out.trans (HTz3.out.mono NBy.out.size)⟩
                    · obtain rfl : a = false := by
                        cases a with
                        | false => rfl
                        | true => exact absurd (HLt.out rfl) hgt
                      have kge : (j : Int) ≤ (i : Int) := by omega
                      have kc : cj < ci := by
                        have h9 := of_decide_eq_false HBa.out.symm
                        have h8 : ¬ ci ≤ cj := fun h => h9 ⟨hij, h⟩
                        omega
                      clear hij hw hgt HBa HLt HTr HOw
                      refine wp_seq_k fun K hK => ?_
                      have HK := TW.hide hK
                      clear hK
                      go_wp2
                      refine HK.out _ _ ?_
                      clear HK
                      obtain ⟨eb, eo, wh1, op1, a1, va1, sh1, hla, hev1, _, _, _, _, x0, x1, x2, x3, x4⟩ := (HEv.out.below NB.out).get i HIl.out
                      obtain ⟨eb', eo', wh2, op2, a2, va2, sh2, hla2, hev2, _, _, _, _, u0, u1, u2, u3, u4⟩ := (HEv.out.below NB.out).get j HJl.out
                      rw [hla] at hla2
                      injection hla2 with hla2
                      injection hla2 with hla3 hla4
                      subst hla3 hla4
                      subst hla
                      obtain rfl : wh1 = (wi : Int) := by have := HWi.out; rw [hev1] at this; exact this
                      obtain rfl : wh2 = (wj : Int) := by have := HWj.out; rw [hev2] at this; exact this
                      clear hev1 hev2 x1 x2 x3 x4 u1 u2 u3 u4
                      refine wp_seq_k fun K hK => ?_
                      have HK := TW.hide hK
                      clear hK
                      go_wp2
                      go_quiet (fail)
                      go_wp2
                      refine HK.out _ _ ?_
                      clear HK x0 u0
                      have hq : Below W6.heap.size W6 (W6.drewN nq) := below_drewN (Below.refl _ _) _
                      have NBy : Hid (Below w.heap.size w (W6.drewN nq)) := NB.out.trans (hq.mono NB.out.size)
                      have y1 := keepC hq y1
                      have y2 := keepC hq y2
                      have y3 := keepC hq y3
                      have y4 := keepC hq y4
                      clear hq NB
                      generalize W6.drewN nq = Y at *
                      refine wp_seq_k fun K hK => ?_
                      have HK := TW.hide hK
                      clear hK
                      go_wp2
                      refine HK.out _ _ ?_
                      clear HK
                      have HX : Hid (Below Y.heap.size Y Y) := Below.refl _ _
                      refine wp_seq_k fun K hK => ?_
                      have HK := TW.hide hK
                      clear hK
                      refine wp_region_noPanic ?_
                      refine RG.wp_region_L (fun Z => True) (fun Z => Below Y.heap.size Y Z) [] (by kernel_rfl) ?_
                      refine RG.wpL_any fun Yz4 hY => ?_
                      have HTz4 : Hid (Below Y.heap.size Y Yz4) := by rw [hY]; exact below_drewN HX.out 1
                      clear hY
                      refine RG.wpL_take (fuel := 0) (a' := ?Az4) [0, 1, 2, 3, 4, 5, 6, 7, 8, 9, 10, 11, 12, 13, 14, 15, 16, 17, 18, 19, 20, 21, 22, 23, 24, 25, 26, 27, 28, 29, 30, 31, 32, 33, 34, 35] (by kernel_rfl) (by kernel_rfl) (fun _ _ _ _ _ h => h) HTz4.out (fun _ => trivial) ?rz4 ?_
                      case rz4 =>
                        refine RG.RunsIf.weak (v := ?_) (by rfl) (by rfl) (fun Z hT => ?_) ?_
                        rotate_left
                        · go_simp
                          rfl
                        simp only [Act.put, List.setIfInBounds_toArray, List.set_cons_zero, List.set_cons_succ, List.getElem_toArray, List.getElem_cons_zero, List.getElem_cons_succ]
                        refine RG.RunsIf.weak (v := ?_) (by rfl) (by rfl) (fun Z hT => ?_) ?_
                        rotate_left
                        · go_simp
                          rfl
                        simp only [Act.put, List.setIfInBounds_toArray, List.set_cons_zero, List.set_cons_succ, List.getElem_toArray, List.getElem_cons_zero, List.getElem_cons_succ]
                        refine RG.RunsIf.weak (v := ?_) (by rfl) (by rfl) (fun Z hT => ?_) ?_
                        rotate_left
                        · go_simp
                          rfl
                        simp only [Act.put, List.setIfInBounds_toArray, List.set_cons_zero, List.set_cons_succ, List.getElem_toArray, List.getElem_cons_zero, List.getElem_cons_succ]
                        refine RG.RunsIf.weak (v := .bool true) (by rfl) (by rfl) (fun Z hT => ?_) ?_
                        · go_simp
                        simp only [Act.put, List.setIfInBounds_toArray, List.set_cons_zero, List.set_cons_succ, List.getElem_toArray, List.getElem_cons_zero, List.getElem_cons_succ]
                        refine RG.RunsIf.weak (v := .bool true) (by rfl) (by rfl) (fun Z hT => ?_) ?_
                        · go_simp
                        simp only [Act.put, List.setIfInBounds_toArray, List.set_cons_zero, List.set_cons_succ, List.getElem_toArray, List.getElem_cons_zero, List.getElem_cons_succ]
                        refine RG.RunsIf.weak (v := ?_) (by rfl) (by rfl) (fun Z hT => ?_) ?_
                        rotate_left
                        · go_simp
                          rfl
                        simp only [Act.put, List.setIfInBounds_toArray, List.set_cons_zero, List.set_cons_succ, List.getElem_toArray, List.getElem_cons_zero, List.getElem_cons_succ]
                        refine RG.RunsIf.weak (v := ?_) (by rfl) (by rfl) (fun Z hT => ?_) ?_
                        rotate_left
                        · go_simp
                          rfl
                        simp only [Act.put, List.setIfInBounds_toArray, List.set_cons_zero, List.set_cons_succ, List.getElem_toArray, List.getElem_cons_zero, List.getElem_cons_succ]
                        refine RG.RunsIf.weak (v := ?_) (by rfl) (by rfl) (fun Z hT => ?_) ?_
                        rotate_left
                        · go_simp
                          rfl
                        simp only [Act.put, List.setIfInBounds_toArray, List.set_cons_zero, List.set_cons_succ, List.getElem_toArray, List.getElem_cons_zero, List.getElem_cons_succ]
                        refine RG.RunsIf.weak (v := .slice (some ⟨b3, o3, none⟩) rn c3) (by rfl) (by rfl) (fun Z hT => ?_) ?_
                        · have y1 := keepC hT y1; have y2 := keepC hT y2; have y3 := keepC hT y3; have y4 := keepC hT y4
                          go_simp
                        simp only [Act.put, List.setIfInBounds_toArray, List.set_cons_zero, List.set_cons_succ, List.getElem_toArray, List.getElem_cons_zero, List.getElem_cons_succ]
                        refine RG.RunsIf.weak (v := ?_) (by rfl) (by rfl) (fun Z hT => ?_) ?_
                        rotate_left
                        · go_simp
                          rfl
                        simp only [Act.put, List.setIfInBounds_toArray, List.set_cons_zero, List.set_cons_succ, List.getElem_toArray, List.getElem_cons_zero, List.getElem_cons_succ]
                        refine RG.RunsIf.weak (v := ?_) (by rfl) (by rfl) (fun Z hT => ?_) ?_
                        rotate_left
                        · go_simp
                          rfl
                        simp only [Act.put, List.setIfInBounds_toArray, List.set_cons_zero, List.set_cons_succ, List.getElem_toArray, List.getElem_cons_zero, List.getElem_cons_succ]
                        refine RG.RunsIf.weak (v := .int .i64 cj) (by rfl) (by rfl) (fun Z hT => ?_) ?_
                        · have y1 := keepC hT y1; have y2 := keepC hT y2; have y3 := keepC hT y3; have y4 := keepC hT y4
                          go_simp
                        simp only [Act.put, List.setIfInBounds_toArray, List.set_cons_zero, List.set_cons_succ, List.getElem_toArray, List.getElem_cons_zero, List.getElem_cons_succ]
                        refine RG.RunsIf.weak (v := ?_) (by rfl) (by rfl) (fun Z hT => ?_) ?_
                        rotate_left
                        · go_simp
                          rfl
                        simp only [Act.put, List.setIfInBounds_toArray, List.set_cons_zero, List.set_cons_succ, List.getElem_toArray, List.getElem_cons_zero, List.getElem_cons_succ]
                        refine RG.RunsIf.weak (v := ?_) (by rfl) (by rfl) (fun Z hT => ?_) ?_
                        rotate_left
                        · go_simp
                          rfl
                        simp only [Act.put, List.setIfInBounds_toArray, List.set_cons_zero, List.set_cons_succ, List.getElem_toArray, List.getElem_cons_zero, List.getElem_cons_succ]
                        refine RG.RunsIf.weak (v := ?_) (by rfl) (by rfl) (fun Z hT => ?_) ?_
                        rotate_left
                        · go_simp
                          rfl
                        simp only [Act.put, List.setIfInBounds_toArray, List.set_cons_zero, List.set_cons_succ, List.getElem_toArray, List.getElem_cons_zero, List.getElem_cons_succ]
                        refine RG.RunsIf.weak (v := .slice (some ⟨b2, o2, none⟩) rn c2) (by rfl) (by rfl) (fun Z hT => ?_) ?_
                        · have y1 := keepC hT y1; have y2 := keepC hT y2; have y3 := keepC hT y3; have y4 := keepC hT y4
                          go_simp
                        simp only [Act.put, List.setIfInBounds_toArray, List.set_cons_zero, List.set_cons_succ, List.getElem_toArray, List.getElem_cons_zero, List.getElem_cons_succ]
                        refine RG.RunsIf.weak (v := ?_) (by rfl) (by rfl) (fun Z hT => ?_) ?_
                        rotate_left
                        · go_simp
                          rfl
                        simp only [Act.put, List.setIfInBounds_toArray, List.set_cons_zero, List.set_cons_succ, List.getElem_toArray, List.getElem_cons_zero, List.getElem_cons_succ]
                        refine RG.RunsIf.weak (v := ?_) (by rfl) (by rfl) (fun Z hT => ?_) ?_
                        rotate_left
                        · go_simp
                          rfl
                        simp only [Act.put, List.setIfInBounds_toArray, List.set_cons_zero, List.set_cons_succ, List.getElem_toArray, List.getElem_cons_zero, List.getElem_cons_succ]
                        refine RG.RunsIf.weak (v := .int .i64 ci) (by rfl) (by rfl) (fun Z hT => ?_) ?_
                        · have y1 := keepC hT y1; have y2 := keepC hT y2; have y3 := keepC hT y3; have y4 := keepC hT y4
                          go_simp
                        simp only [Act.put, List.setIfInBounds_toArray, List.set_cons_zero, List.set_cons_succ, List.getElem_toArray, List.getElem_cons_zero, List.getElem_cons_succ]
                        refine RG.RunsIf.weak (v := .bool false) (by rfl) (by rfl) (fun Z hT => ?_) ?_
                        · go_simp
                        simp only [Act.put, List.setIfInBounds_toArray, List.set_cons_zero, List.set_cons_succ, List.getElem_toArray, List.getElem_cons_zero, List.getElem_cons_succ]
                        refine RG.RunsIf.weak (v := .bool false) (by rfl) (by rfl) (fun Z hT => ?_) ?_
                        · (go_simp) <;> rfl
                        simp only [Act.put, List.setIfInBounds_toArray, List.set_cons_zero, List.set_cons_succ, List.getElem_toArray, List.getElem_cons_zero, List.getElem_cons_succ]
                        refine RG.RunsIf.weak (v := .bool true) (by rfl) (by rfl) (fun Z hT => ?_) ?_
                        · go_simp
                        simp only [Act.put, List.setIfInBounds_toArray, List.set_cons_zero, List.set_cons_succ, List.getElem_toArray, List.getElem_cons_zero, List.getElem_cons_succ]
                        refine RG.RunsIf.weak (v := .bool true) (by rfl) (by rfl) (fun Z hT => ?_) ?_
                        · go_simp
                        simp only [Act.put, List.setIfInBounds_toArray, List.set_cons_zero, List.set_cons_succ, List.getElem_toArray, List.getElem_cons_zero, List.getElem_cons_succ]
                        refine RG.RunsIf.weak (v := ?_) (by rfl) (by rfl) (fun Z hT => ?_) ?_
                        rotate_left
                        · go_simp
                          rfl
                        simp only [Act.put, List.setIfInBounds_toArray, List.set_cons_zero, List.set_cons_succ, List.getElem_toArray, List.getElem_cons_zero, List.getElem_cons_succ]
                        refine RG.RunsIf.weak (v := ?_) (by rfl) (by rfl) (fun Z hT => ?_) ?_
                        rotate_left
                        · go_simp
                          rfl
                        simp only [Act.put, List.setIfInBounds_toArray, List.set_cons_zero, List.set_cons_succ, List.getElem_toArray, List.getElem_cons_zero, List.getElem_cons_succ]
                        refine RG.RunsIf.weak (v := .bool false) (by rfl) (by rfl) (fun Z hT => ?_) ?_
                        · go_simp
                        simp only [Act.put, List.setIfInBounds_toArray, List.set_cons_zero, List.set_cons_succ, List.getElem_toArray, List.getElem_cons_zero, List.getElem_cons_succ]
                        refine RG.RunsIf.weak (v := .bool false) (by rfl) (by rfl) (fun Z hT => ?_) ?_
                        · go_simp
                        simp only [Act.put, List.setIfInBounds_toArray, List.set_cons_zero, List.set_cons_succ, List.getElem_toArray, List.getElem_cons_zero, List.getElem_cons_succ]
                        refine RG.RunsIf.weak (v := ?_) (by rfl) (by rfl) (fun Z hT => ?_) ?_
                        rotate_left
                        · go_simp
                          rfl
                        simp only [Act.put, List.setIfInBounds_toArray, List.set_cons_zero, List.set_cons_succ, List.getElem_toArray, List.getElem_cons_zero, List.getElem_cons_succ]
                        refine RG.RunsIf.weak (v := ?_) (by rfl) (by rfl) (fun Z hT => ?_) ?_
                        rotate_left
                        · go_simp
                          rfl
                        simp only [Act.put, List.setIfInBounds_toArray, List.set_cons_zero, List.set_cons_succ, List.getElem_toArray, List.getElem_cons_zero, List.getElem_cons_succ]
                        refine RG.RunsIf.weak (v := .bool true) (by rfl) (by rfl) (fun Z hT => ?_) ?_
                        · go_simp
                        simp only [Act.put, List.setIfInBounds_toArray, List.set_cons_zero, List.set_cons_succ, List.getElem_toArray, List.getElem_cons_zero, List.getElem_cons_succ]
                        refine RG.RunsIf.weak (v := .bool true) (by rfl) (by rfl) (fun Z hT => ?_) ?_
                        · (go_simp) <;> rfl
                        simp only [Act.put, List.setIfInBounds_toArray, List.set_cons_zero, List.set_cons_succ, List.getElem_toArray, List.getElem_cons_zero, List.getElem_cons_succ]
                        refine RG.RunsIf.weak (v := .bool true) (by rfl) (by rfl) (fun Z hT => ?_) ?_
                        · go_simp
                        simp only [Act.put, List.setIfInBounds_toArray, List.set_cons_zero, List.set_cons_succ, List.getElem_toArray, List.getElem_cons_zero, List.getElem_cons_succ]
                        refine RG.RunsIf.skip (by rfl) (by rfl) ?_
                        simp only [Act.put, List.setIfInBounds_toArray, List.set_cons_zero, List.set_cons_succ, List.getElem_toArray, List.getElem_cons_zero, List.getElem_cons_succ]
                        refine RG.RunsIf.weak (v := .bool true) (by rfl) (by rfl) (fun Z hT => ?_) ?_
                        · (go_simp) <;> rfl
                        simp only [Act.put, List.setIfInBounds_toArray, List.set_cons_zero, List.set_cons_succ, List.getElem_toArray, List.getElem_cons_zero, List.getElem_cons_succ]
                        refine RG.RunsIf.weak (v := .bool true) (by rfl) (by rfl) (fun Z hT => ?_) ?_
                        · (go_simp) <;> rfl
                        simp only [Act.put, List.setIfInBounds_toArray, List.set_cons_zero, List.set_cons_succ, List.getElem_toArray, List.getElem_cons_zero, List.getElem_cons_succ]
                        refine RG.RunsIf.weak (v := ?_) (by rfl) (by rfl) (fun Z hT => ?_) ?_
                        rotate_left
                        · go_simp
                          rfl
                        simp only [Act.put, List.setIfInBounds_toArray, List.set_cons_zero, List.set_cons_succ, List.getElem_toArray, List.getElem_cons_zero, List.getElem_cons_succ]
                        exact RG.RunsIf.nil
                      refine RG.wpL_done (by kernel_rfl) ?_ _
                      refine NoPanic.normal ?_
                      refine HK.out _ _ ?_
                      clear HK
                      go_wp2
                      go_ret
                      exact ⟨rfl, NBy.out.trans (HTz4.out.mono NBy.out.size)⟩
                  · have kw : ((wi : Int) != (wj : Int)) = true := by simp; omega
                    cases a with
                    | false =>
                      have kc : cj < ci := by
                        have h9 := of_decide_eq_false HBa.out.symm
                        have h8 : ¬ ci ≤ cj := fun h => h9 ⟨hij, h⟩
                        omega
                      clear hij hw HBa HLt HTr HOw
                      refine wp_seq_k fun K hK => ?_
                      have HK := TW.hide hK
                      clear hK
                      go_wp2
                      refine HK.out _ _ ?_
                      clear HK
                      obtain ⟨eb, eo, wh1, op1, a1, va1, sh1, hla, hev1, _, _, _, _, x0, x1, x2, x3, x4⟩ := (HEv.out.below NB.out).get i HIl.out
                      obtain ⟨eb', eo', wh2, op2, a2, va2, sh2, hla2, hev2, _, _, _, _, u0, u1, u2, u3, u4⟩ := (HEv.out.below NB.out).get j HJl.out
                      rw [hla] at hla2
                      injection hla2 with hla2
                      injection hla2 with hla3 hla4
                      subst hla3 hla4
                      subst hla
                      obtain rfl : wh1 = (wi : Int) := by have := HWi.out; rw [hev1] at this; exact this
                      obtain rfl : wh2 = (wj : Int) := by have := HWj.out; rw [hev2] at this; exact this
                      clear hev1 hev2 x1 x2 x3 x4 u1 u2 u3 u4
                      refine wp_seq_k fun K hK => ?_
                      have HK := TW.hide hK
                      clear hK
                      go_wp2
                      go_quiet (fail)
                      go_wp2
                      refine HK.out _ _ ?_
                      clear HK x0 u0
                      have hq : Below W6.heap.size W6 (W6.drewN nq) := below_drewN (Below.refl _ _) _
                      have NBy : Hid (Below w.heap.size w (W6.drewN nq)) := NB.out.trans (hq.mono NB.out.size)
                      have y1 := keepC hq y1
                      have y2 := keepC hq y2
                      have y3 := keepC hq y3
                      have y4 := keepC hq y4
                      clear hq NB
                      generalize W6.drewN nq = Y at *
                      refine wp_seq_k fun K hK => ?_
                      have HK := TW.hide hK
                      clear hK
                      go_wp2
                      refine HK.out _ _ ?_
                      clear HK
                      have HX : Hid (Below Y.heap.size Y Y) := Below.refl _ _
                      refine wp_seq_k fun K hK => ?_
                      have HK := TW.hide hK
                      clear hK
                      refine wp_region_noPanic ?_
                      refine RG.wp_region_L (fun Z => True) (fun Z => Below Y.heap.size Y Z) [] (by kernel_rfl) ?_
                      refine RG.wpL_any fun Yz5 hY => ?_
                      have HTz5 : Hid (Below Y.heap.size Y Yz5) := by rw [hY]; exact below_drewN HX.out 1
                      clear hY
                      refine RG.wpL_take (fuel := 0) (a' := ?Az5) [0, 1, 2, 3, 4, 5, 6, 7, 8, 9, 10, 11, 12, 13, 14, 15, 16, 17, 18, 19, 20, 21, 22, 23, 24, 25, 26, 27, 28, 29, 30, 31, 32, 33, 34, 35] (by kernel_rfl) (by kernel_rfl) (fun _ _ _ _ _ h => h) HTz5.out (fun _ => trivial) ?rz5 ?_
                      case rz5 =>
                        refine RG.RunsIf.weak (v := ?_) (by rfl) (by rfl) (fun Z hT => ?_) ?_
                        rotate_left
                        · go_simp
                          rfl
                        simp only [Act.put, List.setIfInBounds_toArray, List.set_cons_zero, List.set_cons_succ, List.getElem_toArray, List.getElem_cons_zero, List.getElem_cons_succ]
                        refine RG.RunsIf.weak (v := ?_) (by rfl) (by rfl) (fun Z hT => ?_) ?_
                        rotate_left
                        · go_simp
                          rfl
                        simp only [Act.put, List.setIfInBounds_toArray, List.set_cons_zero, List.set_cons_succ, List.getElem_toArray, List.getElem_cons_zero, List.getElem_cons_succ]
                        refine RG.RunsIf.weak (v := ?_) (by rfl) (by rfl) (fun Z hT => ?_) ?_
                        rotate_left
                        · go_simp
                          rfl
                        simp only [Act.put, List.setIfInBounds_toArray, List.set_cons_zero, List.set_cons_succ, List.getElem_toArray, List.getElem_cons_zero, List.getElem_cons_succ]
                        refine RG.RunsIf.weak (v := .bool true) (by rfl) (by rfl) (fun Z hT => ?_) ?_
                        · go_simp
                        simp only [Act.put, List.setIfInBounds_toArray, List.set_cons_zero, List.set_cons_succ, List.getElem_toArray, List.getElem_cons_zero, List.getElem_cons_succ]
                        refine RG.RunsIf.weak (v := .bool true) (by rfl) (by rfl) (fun Z hT => ?_) ?_
                        · go_simp
                        simp only [Act.put, List.setIfInBounds_toArray, List.set_cons_zero, List.set_cons_succ, List.getElem_toArray, List.getElem_cons_zero, List.getElem_cons_succ]
                        refine RG.RunsIf.weak (v := ?_) (by rfl) (by rfl) (fun Z hT => ?_) ?_
                        rotate_left
                        · go_simp
                          rfl
                        simp only [Act.put, List.setIfInBounds_toArray, List.set_cons_zero, List.set_cons_succ, List.getElem_toArray, List.getElem_cons_zero, List.getElem_cons_succ]
                        refine RG.RunsIf.weak (v := ?_) (by rfl) (by rfl) (fun Z hT => ?_) ?_
                        rotate_left
                        · go_simp
                          rfl
                        simp only [Act.put, List.setIfInBounds_toArray, List.set_cons_zero, List.set_cons_succ, List.getElem_toArray, List.getElem_cons_zero, List.getElem_cons_succ]
                        refine RG.RunsIf.weak (v := ?_) (by rfl) (by rfl) (fun Z hT => ?_) ?_
                        rotate_left
                        · go_simp
                          rfl
                        simp only [Act.put, List.setIfInBounds_toArray, List.set_cons_zero, List.set_cons_succ, List.getElem_toArray, List.getElem_cons_zero, List.getElem_cons_succ]
                        refine RG.RunsIf.weak (v := .slice (some ⟨b3, o3, none⟩) rn c3) (by rfl) (by rfl) (fun Z hT => ?_) ?_
                        · have y1 := keepC hT y1; have y2 := keepC hT y2; have y3 := keepC hT y3; have y4 := keepC hT y4
                          go_simp
                        simp only [Act.put, List.setIfInBounds_toArray, List.set_cons_zero, List.set_cons_succ, List.getElem_toArray, List.getElem_cons_zero, List.getElem_cons_succ]
                        refine RG.RunsIf.weak (v := ?_) (by rfl) (by rfl) (fun Z hT => ?_) ?_
                        rotate_left
                        · go_simp
                          rfl
                        simp only [Act.put, List.setIfInBounds_toArray, List.set_cons_zero, List.set_cons_succ, List.getElem_toArray, List.getElem_cons_zero, List.getElem_cons_succ]
                        refine RG.RunsIf.weak (v := ?_) (by rfl) (by rfl) (fun Z hT => ?_) ?_
                        rotate_left
                        · go_simp
                          rfl
                        simp only [Act.put, List.setIfInBounds_toArray, List.set_cons_zero, List.set_cons_succ, List.getElem_toArray, List.getElem_cons_zero, List.getElem_cons_succ]
                        refine RG.RunsIf.weak (v := .int .i64 cj) (by rfl) (by rfl) (fun Z hT => ?_) ?_
                        · have y1 := keepC hT y1; have y2 := keepC hT y2; have y3 := keepC hT y3; have y4 := keepC hT y4
                          go_simp
                        simp only [Act.put, List.setIfInBounds_toArray, List.set_cons_zero, List.set_cons_succ, List.getElem_toArray, List.getElem_cons_zero, List.getElem_cons_succ]
                        refine RG.RunsIf.weak (v := ?_) (by rfl) (by rfl) (fun Z hT => ?_) ?_
                        rotate_left
                        · go_simp
                          rfl
                        simp only [Act.put, List.setIfInBounds_toArray, List.set_cons_zero, List.set_cons_succ, List.getElem_toArray, List.getElem_cons_zero, List.getElem_cons_succ]
                        refine RG.RunsIf.weak (v := ?_) (by rfl) (by rfl) (fun Z hT => ?_) ?_
                        rotate_left
                        · go_simp
                          rfl
                        simp only [Act.put, List.setIfInBounds_toArray, List.set_cons_zero, List.set_cons_succ, List.getElem_toArray, List.getElem_cons_zero, List.getElem_cons_succ]
                        refine RG.RunsIf.weak (v := ?_) (by rfl) (by rfl) (fun Z hT => ?_) ?_
                        rotate_left
                        · go_simp
                          rfl
                        simp only [Act.put, List.setIfInBounds_toArray, List.set_cons_zero, List.set_cons_succ, List.getElem_toArray, List.getElem_cons_zero, List.getElem_cons_succ]
                        refine RG.RunsIf.weak (v := .slice (some ⟨b2, o2, none⟩) rn c2) (by rfl) (by rfl) (fun Z hT => ?_) ?_
                        · have y1 := keepC hT y1; have y2 := keepC hT y2; have y3 := keepC hT y3; have y4 := keepC hT y4
                          go_simp
                        simp only [Act.put, List.setIfInBounds_toArray, List.set_cons_zero, List.set_cons_succ, List.getElem_toArray, List.getElem_cons_zero, List.getElem_cons_succ]
                        refine RG.RunsIf.weak (v := ?_) (by rfl) (by rfl) (fun Z hT => ?_) ?_
                        rotate_left
                        · go_simp
                          rfl
                        simp only [Act.put, List.setIfInBounds_toArray, List.set_cons_zero, List.set_cons_succ, List.getElem_toArray, List.getElem_cons_zero, List.getElem_cons_succ]
                        refine RG.RunsIf.weak (v := ?_) (by rfl) (by rfl) (fun Z hT => ?_) ?_
                        rotate_left
                        · go_simp
                          rfl
                        simp only [Act.put, List.setIfInBounds_toArray, List.set_cons_zero, List.set_cons_succ, List.getElem_toArray, List.getElem_cons_zero, List.getElem_cons_succ]
                        refine RG.RunsIf.weak (v := .int .i64 ci) (by rfl) (by rfl) (fun Z hT => ?_) ?_
                        · have y1 := keepC hT y1; have y2 := keepC hT y2; have y3 := keepC hT y3; have y4 := keepC hT y4
                          go_simp
                        simp only [Act.put, List.setIfInBounds_toArray, List.set_cons_zero, List.set_cons_succ, List.getElem_toArray, List.getElem_cons_zero, List.getElem_cons_succ]
                        refine RG.RunsIf.weak (v := .bool false) (by rfl) (by rfl) (fun Z hT => ?_) ?_
                        · go_simp
                        simp only [Act.put, List.setIfInBounds_toArray, List.set_cons_zero, List.set_cons_succ, List.getElem_toArray, List.getElem_cons_zero, List.getElem_cons_succ]
                        refine RG.RunsIf.weak (v := .bool false) (by rfl) (by rfl) (fun Z hT => ?_) ?_
                        · (go_simp) <;> rfl
                        simp only [Act.put, List.setIfInBounds_toArray, List.set_cons_zero, List.set_cons_succ, List.getElem_toArray, List.getElem_cons_zero, List.getElem_cons_succ]
                        refine RG.RunsIf.weak (v := .bool true) (by rfl) (by rfl) (fun Z hT => ?_) ?_
                        · go_simp
                        simp only [Act.put, List.setIfInBounds_toArray, List.set_cons_zero, List.set_cons_succ, List.getElem_toArray, List.getElem_cons_zero, List.getElem_cons_succ]
                        refine RG.RunsIf.weak (v := .bool true) (by rfl) (by rfl) (fun Z hT => ?_) ?_
                        · go_simp
                        simp only [Act.put, List.setIfInBounds_toArray, List.set_cons_zero, List.set_cons_succ, List.getElem_toArray, List.getElem_cons_zero, List.getElem_cons_succ]
                        refine RG.RunsIf.weak (v := ?_) (by rfl) (by rfl) (fun Z hT => ?_) ?_
                        rotate_left
                        · go_simp
                          rfl
                        simp only [Act.put, List.setIfInBounds_toArray, List.set_cons_zero, List.set_cons_succ, List.getElem_toArray, List.getElem_cons_zero, List.getElem_cons_succ]
                        refine RG.RunsIf.weak (v := ?_) (by rfl) (by rfl) (fun Z hT => ?_) ?_
                        rotate_left
                        · go_simp
                          rfl
                        simp only [Act.put, List.setIfInBounds_toArray, List.set_cons_zero, List.set_cons_succ, List.getElem_toArray, List.getElem_cons_zero, List.getElem_cons_succ]
                        refine RG.RunsIf.weak (v := .bool true) (by rfl) (by rfl) (fun Z hT => ?_) ?_
                        · go_simp
                        simp only [Act.put, List.setIfInBounds_toArray, List.set_cons_zero, List.set_cons_succ, List.getElem_toArray, List.getElem_cons_zero, List.getElem_cons_succ]
                        refine RG.RunsIf.weak (v := .bool true) (by rfl) (by rfl) (fun Z hT => ?_) ?_
                        · go_simp
                        simp only [Act.put, List.setIfInBounds_toArray, List.set_cons_zero, List.set_cons_succ, List.getElem_toArray, List.getElem_cons_zero, List.getElem_cons_succ]
                        refine RG.RunsIf.skip (by rfl) (by rfl) ?_
                        simp only [Act.put, List.setIfInBounds_toArray, List.set_cons_zero, List.set_cons_succ, List.getElem_toArray, List.getElem_cons_zero, List.getElem_cons_succ]
                        refine RG.RunsIf.skip (by rfl) (by rfl) ?_
                        simp only [Act.put, List.setIfInBounds_toArray, List.set_cons_zero, List.set_cons_succ, List.getElem_toArray, List.getElem_cons_zero, List.getElem_cons_succ]
                        refine RG.RunsIf.skip (by rfl) (by rfl) ?_
                        simp only [Act.put, List.setIfInBounds_toArray, List.set_cons_zero, List.set_cons_succ, List.getElem_toArray, List.getElem_cons_zero, List.getElem_cons_succ]
                        refine RG.RunsIf.weak (v := .bool true) (by rfl) (by rfl) (fun Z hT => ?_) ?_
                        · (go_simp) <;> rfl
                        simp only [Act.put, List.setIfInBounds_toArray, List.set_cons_zero, List.set_cons_succ, List.getElem_toArray, List.getElem_cons_zero, List.getElem_cons_succ]
                        refine RG.RunsIf.weak (v := .bool true) (by rfl) (by rfl) (fun Z hT => ?_) ?_
                        · go_simp
                        simp only [Act.put, List.setIfInBounds_toArray, List.set_cons_zero, List.set_cons_succ, List.getElem_toArray, List.getElem_cons_zero, List.getElem_cons_succ]
                        refine RG.RunsIf.skip (by rfl) (by rfl) ?_
                        simp only [Act.put, List.setIfInBounds_toArray, List.set_cons_zero, List.set_cons_succ, List.getElem_toArray, List.getElem_cons_zero, List.getElem_cons_succ]
                        refine RG.RunsIf.weak (v := .bool true) (by rfl) (by rfl) (fun Z hT => ?_) ?_
                        · (go_simp) <;> rfl
                        simp only [Act.put, List.setIfInBounds_toArray, List.set_cons_zero, List.set_cons_succ, List.getElem_toArray, List.getElem_cons_zero, List.getElem_cons_succ]
                        refine RG.RunsIf.weak (v := .bool true) (by rfl) (by rfl) (fun Z hT => ?_) ?_
                        · (go_simp) <;> rfl
                        simp only [Act.put, List.setIfInBounds_toArray, List.set_cons_zero, List.set_cons_succ, List.getElem_toArray, List.getElem_cons_zero, List.getElem_cons_succ]
                        refine RG.RunsIf.weak (v := ?_) (by rfl) (by rfl) (fun Z hT => ?_) ?_
                        rotate_left
                        · go_simp
                          rfl
                        simp only [Act.put, List.setIfInBounds_toArray, List.set_cons_zero, List.set_cons_succ, List.getElem_toArray, List.getElem_cons_zero, List.getElem_cons_succ]
                        exact RG.RunsIf.nil
                      refine RG.wpL_done (by kernel_rfl) ?_ _
                      refine NoPanic.normal ?_
                      refine HK.out _ _ ?_
                      clear HK
                      go_wp2
                      go_ret
                      exact ⟨rfl, NBy.out.trans (HTz5.out.mono NBy.out.size)⟩
                    | true =>
                      have klt : (i : Int) < (j : Int) := by have := HLt.out rfl; omega
                      have kc : ci ≤ cj := by have := HBa.out; exact (of_decide_eq_true this.symm).2
                      cases b with
                      | false =>
                        clear hij hw HBa HLt HTr HOw
                        refine wp_seq_k fun K hK => ?_
                        have HK := TW.hide hK
                        clear hK
                        go_wp2
                        refine HK.out _ _ ?_
                        clear HK
                        obtain ⟨eb, eo, wh1, op1, a1, va1, sh1, hla, hev1, _, _, _, _, x0, x1, x2, x3, x4⟩ := (HEv.out.below NB.out).get i HIl.out
                        obtain ⟨eb', eo', wh2, op2, a2, va2, sh2, hla2, hev2, _, _, _, _, u0, u1, u2, u3, u4⟩ := (HEv.out.below NB.out).get j HJl.out
                        rw [hla] at hla2
                        injection hla2 with hla2
                        injection hla2 with hla3 hla4
                        subst hla3 hla4
                        subst hla
                        obtain rfl : wh1 = (wi : Int) := by have := HWi.out; rw [hev1] at this; exact this
                        obtain rfl : wh2 = (wj : Int) := by have := HWj.out; rw [hev2] at this; exact this
                        clear hev1 hev2 x1 x2 x3 x4 u1 u2 u3 u4
                        refine wp_seq_k fun K hK => ?_
                        have HK := TW.hide hK
                        clear hK
                        go_wp2
                        go_quiet (fail)
                        go_wp2
                        refine HK.out _ _ ?_
                        clear HK x0 u0
                        have hq : Below W6.heap.size W6 (W6.drewN nq) := below_drewN (Below.refl _ _) _
                        have NBy : Hid (Below w.heap.size w (W6.drewN nq)) := NB.out.trans (hq.mono NB.out.size)
                        have y1 := keepC hq y1
                        have y2 := keepC hq y2
                        have y3 := keepC hq y3
                        have y4 := keepC hq y4
                        clear hq NB
                        generalize W6.drewN nq = Y at *
                        refine wp_seq_k fun K hK => ?_
                        have HK := TW.hide hK
                        clear hK
                        go_wp2
                        refine HK.out _ _ ?_
                        clear HK
                        have HX : Hid (Below Y.heap.size Y Y) := Below.refl _ _
                        refine wp_seq_k fun K hK => ?_
                        have HK := TW.hide hK
                        clear hK
                        refine wp_region_noPanic ?_
                        refine RG.wp_region_L (fun Z => True) (fun Z => Below Y.heap.size Y Z) [] (by kernel_rfl) ?_
                        refine RG.wpL_any fun Yz6 hY => ?_
                        have HTz6 : Hid (Below Y.heap.size Y Yz6) := by rw [hY]; exact below_drewN HX.out 1
                        clear hY
                        refine RG.wpL_take (fuel := 0) (a' := ?Az6) [0, 1, 2, 3, 4, 5, 6, 7, 8, 9, 10, 11, 12, 13, 14, 15, 16, 17, 18, 19, 20, 21, 22, 23, 24, 25, 26, 27, 28, 29, 30, 31, 32, 33, 34, 35] (by kernel_rfl) (by kernel_rfl) (fun _ _ _ _ _ h => h) HTz6.out (fun _ => trivial) ?rz6 ?_
                        case rz6 =>
                          refine RG.RunsIf.weak (v := ?_) (by rfl) (by rfl) (fun Z hT => ?_) ?_
                          rotate_left
                          · go_simp
                            rfl
                          simp only [Act.put, List.setIfInBounds_toArray, List.set_cons_zero, List.set_cons_succ, List.getElem_toArray, List.getElem_cons_zero, List.getElem_cons_succ]
                          refine RG.RunsIf.weak (v := ?_) (by rfl) (by rfl) (fun Z hT => ?_) ?_
                          rotate_left
                          · go_simp
                            rfl
                          simp only [Act.put, List.setIfInBounds_toArray, List.set_cons_zero, List.set_cons_succ, List.getElem_toArray, List.getElem_cons_zero, List.getElem_cons_succ]
                          refine RG.RunsIf.weak (v := ?_) (by rfl) (by rfl) (fun Z hT => ?_) ?_
                          rotate_left
                          · go_simp
                            rfl
                          simp only [Act.put, List.setIfInBounds_toArray, List.set_cons_zero, List.set_cons_succ, List.getElem_toArray, List.getElem_cons_zero, List.getElem_cons_succ]
                          refine RG.RunsIf.weak (v := .bool true) (by rfl) (by rfl) (fun Z hT => ?_) ?_
                          · go_simp
                          simp only [Act.put, List.setIfInBounds_toArray, List.set_cons_zero, List.set_cons_succ, List.getElem_toArray, List.getElem_cons_zero, List.getElem_cons_succ]
                          refine RG.RunsIf.weak (v := .bool true) (by rfl) (by rfl) (fun Z hT => ?_) ?_
                          · go_simp
                          simp only [Act.put, List.setIfInBounds_toArray, List.set_cons_zero, List.set_cons_succ, List.getElem_toArray, List.getElem_cons_zero, List.getElem_cons_succ]
                          refine RG.RunsIf.weak (v := ?_) (by rfl) (by rfl) (fun Z hT => ?_) ?_
                          rotate_left
                          · go_simp
                            rfl
                          simp only [Act.put, List.setIfInBounds_toArray, List.set_cons_zero, List.set_cons_succ, List.getElem_toArray, List.getElem_cons_zero, List.getElem_cons_succ]
                          refine RG.RunsIf.weak (v := ?_) (by rfl) (by rfl) (fun Z hT => ?_) ?_
                          rotate_left
                          · go_simp
                            rfl
                          simp only [Act.put, List.setIfInBounds_toArray, List.set_cons_zero, List.set_cons_succ, List.getElem_toArray, List.getElem_cons_zero, List.getElem_cons_succ]
                          refine RG.RunsIf.weak (v := ?_) (by rfl) (by rfl) (fun Z hT => ?_) ?_
                          rotate_left
                          · go_simp
                            rfl
                          simp only [Act.put, List.setIfInBounds_toArray, List.set_cons_zero, List.set_cons_succ, List.getElem_toArray, List.getElem_cons_zero, List.getElem_cons_succ]
                          refine RG.RunsIf.weak (v := .slice (some ⟨b3, o3, none⟩) rn c3) (by rfl) (by rfl) (fun Z hT => ?_) ?_
                          · have y1 := keepC hT y1; have y2 := keepC hT y2; have y3 := keepC hT y3; have y4 := keepC hT y4
                            go_simp
                          simp only [Act.put, List.setIfInBounds_toArray, List.set_cons_zero, List.set_cons_succ, List.getElem_toArray, List.getElem_cons_zero, List.getElem_cons_succ]
                          refine RG.RunsIf.weak (v := ?_) (by rfl) (by rfl) (fun Z hT => ?_) ?_
                          rotate_left
                          · go_simp
                            rfl
                          simp only [Act.put, List.setIfInBounds_toArray, List.set_cons_zero, List.set_cons_succ, List.getElem_toArray, List.getElem_cons_zero, List.getElem_cons_succ]
                          refine RG.RunsIf.weak (v := ?_) (by rfl) (by rfl) (fun Z hT => ?_) ?_
                          rotate_left
                          · go_simp
                            rfl
                          simp only [Act.put, List.setIfInBounds_toArray, List.set_cons_zero, List.set_cons_succ, List.getElem_toArray, List.getElem_cons_zero, List.getElem_cons_succ]
                          refine RG.RunsIf.weak (v := .int .i64 cj) (by rfl) (by rfl) (fun Z hT => ?_) ?_
                          · have y1 := keepC hT y1; have y2 := keepC hT y2; have y3 := keepC hT y3; have y4 := keepC hT y4
                            go_simp
                          simp only [Act.put, List.setIfInBounds_toArray, List.set_cons_zero, List.set_cons_succ, List.getElem_toArray, List.getElem_cons_zero, List.getElem_cons_succ]
                          refine RG.RunsIf.weak (v := ?_) (by rfl) (by rfl) (fun Z hT => ?_) ?_
                          rotate_left
                          · go_simp
                            rfl
                          simp only [Act.put, List.setIfInBounds_toArray, List.set_cons_zero, List.set_cons_succ, List.getElem_toArray, List.getElem_cons_zero, List.getElem_cons_succ]
                          refine RG.RunsIf.weak (v := ?_) (by rfl) (by rfl) (fun Z hT => ?_) ?_
                          rotate_left
                          · go_simp
                            rfl
                          simp only [Act.put, List.setIfInBounds_toArray, List.set_cons_zero, List.set_cons_succ, List.getElem_toArray, List.getElem_cons_zero, List.getElem_cons_succ]
                          refine RG.RunsIf.weak (v := ?_) (by rfl) (by rfl) (fun Z hT => ?_) ?_
                          rotate_left
                          · go_simp
                            rfl
                          simp only [Act.put, List.setIfInBounds_toArray, List.set_cons_zero, List.set_cons_succ, List.getElem_toArray, List.getElem_cons_zero, List.getElem_cons_succ]
                          refine RG.RunsIf.weak (v := .slice (some ⟨b2, o2, none⟩) rn c2) (by rfl) (by rfl) (fun Z hT => ?_) ?_
                          · have y1 := keepC hT y1; have y2 := keepC hT y2; have y3 := keepC hT y3; have y4 := keepC hT y4
                            go_simp
                          simp only [Act.put, List.setIfInBounds_toArray, List.set_cons_zero, List.set_cons_succ, List.getElem_toArray, List.getElem_cons_zero, List.getElem_cons_succ]
                          refine RG.RunsIf.weak (v := ?_) (by rfl) (by rfl) (fun Z hT => ?_) ?_
                          rotate_left
                          · go_simp
                            rfl
                          simp only [Act.put, List.setIfInBounds_toArray, List.set_cons_zero, List.set_cons_succ, List.getElem_toArray, List.getElem_cons_zero, List.getElem_cons_succ]
                          refine RG.RunsIf.weak (v := ?_) (by rfl) (by rfl) (fun Z hT => ?_) ?_
                          rotate_left
                          · go_simp
                            rfl
                          simp only [Act.put, List.setIfInBounds_toArray, List.set_cons_zero, List.set_cons_succ, List.getElem_toArray, List.getElem_cons_zero, List.getElem_cons_succ]
                          refine RG.RunsIf.weak (v := .int .i64 ci) (by rfl) (by rfl) (fun Z hT => ?_) ?_
                          · have y1 := keepC hT y1; have y2 := keepC hT y2; have y3 := keepC hT y3; have y4 := keepC hT y4
                            go_simp
                          simp only [Act.put, List.setIfInBounds_toArray, List.set_cons_zero, List.set_cons_succ, List.getElem_toArray, List.getElem_cons_zero, List.getElem_cons_succ]
                          refine RG.RunsIf.weak (v := .bool true) (by rfl) (by rfl) (fun Z hT => ?_) ?_
                          · go_simp
                          simp only [Act.put, List.setIfInBounds_toArray, List.set_cons_zero, List.set_cons_succ, List.getElem_toArray, List.getElem_cons_zero, List.getElem_cons_succ]
                          refine RG.RunsIf.weak (v := .bool true) (by rfl) (by rfl) (fun Z hT => ?_) ?_
                          · (go_simp) <;> rfl
                          simp only [Act.put, List.setIfInBounds_toArray, List.set_cons_zero, List.set_cons_succ, List.getElem_toArray, List.getElem_cons_zero, List.getElem_cons_succ]
                          refine RG.RunsIf.weak (v := .bool true) (by rfl) (by rfl) (fun Z hT => ?_) ?_
                          · go_simp
                          simp only [Act.put, List.setIfInBounds_toArray, List.set_cons_zero, List.set_cons_succ, List.getElem_toArray, List.getElem_cons_zero, List.getElem_cons_succ]
                          refine RG.RunsIf.weak (v := .bool true) (by rfl) (by rfl) (fun Z hT => ?_) ?_
                          · go_simp
                          simp only [Act.put, List.setIfInBounds_toArray, List.set_cons_zero, List.set_cons_succ, List.getElem_toArray, List.getElem_cons_zero, List.getElem_cons_succ]
                          refine RG.RunsIf.weak (v := ?_) (by rfl) (by rfl) (fun Z hT => ?_) ?_
                          rotate_left
                          · go_simp
                            rfl
                          simp only [Act.put, List.setIfInBounds_toArray, List.set_cons_zero, List.set_cons_succ, List.getElem_toArray, List.getElem_cons_zero, List.getElem_cons_succ]
                          refine RG.RunsIf.weak (v := ?_) (by rfl) (by rfl) (fun Z hT => ?_) ?_
                          rotate_left
                          · go_simp
                            rfl
                          simp only [Act.put, List.setIfInBounds_toArray, List.set_cons_zero, List.set_cons_succ, List.getElem_toArray, List.getElem_cons_zero, List.getElem_cons_succ]
                          refine RG.RunsIf.weak (v := .bool true) (by rfl) (by rfl) (fun Z hT => ?_) ?_
                          · go_simp
                          simp only [Act.put, List.setIfInBounds_toArray, List.set_cons_zero, List.set_cons_succ, List.getElem_toArray, List.getElem_cons_zero, List.getElem_cons_succ]
                          refine RG.RunsIf.weak (v := .bool true) (by rfl) (by rfl) (fun Z hT => ?_) ?_
                          · go_simp
                          simp only [Act.put, List.setIfInBounds_toArray, List.set_cons_zero, List.set_cons_succ, List.getElem_toArray, List.getElem_cons_zero, List.getElem_cons_succ]
                          refine RG.RunsIf.skip (by rfl) (by rfl) ?_
                          simp only [Act.put, List.setIfInBounds_toArray, List.set_cons_zero, List.set_cons_succ, List.getElem_toArray, List.getElem_cons_zero, List.getElem_cons_succ]
                          refine RG.RunsIf.skip (by rfl) (by rfl) ?_
                          simp only [Act.put, List.setIfInBounds_toArray, List.set_cons_zero, List.set_cons_succ, List.getElem_toArray, List.getElem_cons_zero, List.getElem_cons_succ]
                          refine RG.RunsIf.skip (by rfl) (by rfl) ?_
                          simp only [Act.put, List.setIfInBounds_toArray, List.set_cons_zero, List.set_cons_succ, List.getElem_toArray, List.getElem_cons_zero, List.getElem_cons_succ]
                          refine RG.RunsIf.weak (v := .bool true) (by rfl) (by rfl) (fun Z hT => ?_) ?_
                          · (go_simp) <;> rfl
                          simp only [Act.put, List.setIfInBounds_toArray, List.set_cons_zero, List.set_cons_succ, List.getElem_toArray, List.getElem_cons_zero, List.getElem_cons_succ]
                          refine RG.RunsIf.weak (v := .bool true) (by rfl) (by rfl) (fun Z hT => ?_) ?_
                          · go_simp
                          simp only [Act.put, List.setIfInBounds_toArray, List.set_cons_zero, List.set_cons_succ, List.getElem_toArray, List.getElem_cons_zero, List.getElem_cons_succ]
                          refine RG.RunsIf.skip (by rfl) (by rfl) ?_
                          simp only [Act.put, List.setIfInBounds_toArray, List.set_cons_zero, List.set_cons_succ, List.getElem_toArray, List.getElem_cons_zero, List.getElem_cons_succ]
                          refine RG.RunsIf.weak (v := .bool true) (by rfl) (by rfl) (fun Z hT => ?_) ?_
                          · (go_simp) <;> rfl
                          simp only [Act.put, List.setIfInBounds_toArray, List.set_cons_zero, List.set_cons_succ, List.getElem_toArray, List.getElem_cons_zero, List.getElem_cons_succ]
                          refine RG.RunsIf.weak (v := .bool true) (by rfl) (by rfl) (fun Z hT => ?_) ?_
                          · (go_simp) <;> rfl
                          simp only [Act.put, List.setIfInBounds_toArray, List.set_cons_zero, List.set_cons_succ, List.getElem_toArray, List.getElem_cons_zero, List.getElem_cons_succ]
                          refine RG.RunsIf.weak (v := ?_) (by rfl) (by rfl) (fun Z hT => ?_) ?_
                          rotate_left
                          · go_simp
                            rfl
                          simp only [Act.put, List.setIfInBounds_toArray, List.set_cons_zero, List.set_cons_succ, List.getElem_toArray, List.getElem_cons_zero, List.getElem_cons_succ]
                          exact RG.RunsIf.nil
                        refine RG.wpL_done (by kernel_rfl) ?_ _
                        refine NoPanic.normal ?_
                        refine HK.out _ _ ?_
                        clear HK
                        go_wp2
                        go_ret
                        exact ⟨rfl, NBy.out.trans (HTz6.out.mono NBy.out.size)⟩
                      | true =>
                        obtain rfl : d = true := HTr.out rfl rfl
                        clear hij hw HBa HLt HTr HOw
                        refine wp_seq_k fun K hK => ?_
                        have HK := TW.hide hK
                        clear hK
                        go_wp2
                        refine HK.out _ _ ?_
                        clear HK
                        obtain ⟨eb, eo, wh1, op1, a1, va1, sh1, hla, hev1, _, _, _, _, x0, x1, x2, x3, x4⟩ := (HEv.out.below NB.out).get i HIl.out
                        obtain ⟨eb', eo', wh2, op2, a2, va2, sh2, hla2, hev2, _, _, _, _, u0, u1, u2, u3, u4⟩ := (HEv.out.below NB.out).get j HJl.out
                        rw [hla] at hla2
                        injection hla2 with hla2
                        injection hla2 with hla3 hla4
                        subst hla3 hla4
                        subst hla
                        obtain rfl : wh1 = (wi : Int) := by have := HWi.out; rw [hev1] at this; exact this
                        obtain rfl : wh2 = (wj : Int) := by have := HWj.out; rw [hev2] at this; exact this
                        clear hev1 hev2 x1 x2 x3 x4 u1 u2 u3 u4
                        refine wp_seq_k fun K hK => ?_
                        have HK := TW.hide hK
                        clear hK
                        go_wp2
                        go_quiet (fail)
                        go_wp2
                        refine HK.out _ _ ?_
                        clear HK x0 u0
                        have hq : Below W6.heap.size W6 (W6.drewN nq) := below_drewN (Below.refl _ _) _
                        have NBy : Hid (Below w.heap.size w (W6.drewN nq)) := NB.out.trans (hq.mono NB.out.size)
                        have y1 := keepC hq y1
                        have y2 := keepC hq y2
                        have y3 := keepC hq y3
                        have y4 := keepC hq y4
                        clear hq NB
                        generalize W6.drewN nq = Y at *
                        refine wp_seq_k fun K hK => ?_
                        have HK := TW.hide hK
                        clear hK
                        go_wp2
                        refine HK.out _ _ ?_
                        clear HK
                        have HX : Hid (Below Y.heap.size Y Y) := Below.refl _ _
                        refine wp_seq_k fun K hK => ?_
                        have HK := TW.hide hK
                        clear hK
                        refine wp_region_noPanic ?_
                        refine RG.wp_region_L (fun Z => True) (fun Z => Below Y.heap.size Y Z) [] (by kernel_rfl) ?_
                        refine RG.wpL_any fun Yz7 hY => ?_
                        have HTz7 : Hid (Below Y.heap.size Y Yz7) := by rw [hY]; exact below_drewN HX.out 1
                        clear hY
                        refine RG.wpL_take (fuel := 0) (a' := ?Az7) [0, 1, 2, 3, 4, 5, 6, 7, 8, 9, 10, 11, 12, 13, 14, 15, 16, 17, 18, 19, 20, 21, 22, 23, 24, 25, 26, 27, 28, 29, 30, 31, 32, 33, 34, 35] (by kernel_rfl) (by kernel_rfl) (fun _ _ _ _ _ h => h) HTz7.out (fun _ => trivial) ?rz7 ?_
                        case rz7 =>
                          refine RG.RunsIf.weak (v := ?_) (by rfl) (by rfl) (fun Z hT => ?_) ?_
                          rotate_left
                          · go_simp
                            rfl
                          simp only [Act.put, List.setIfInBounds_toArray, List.set_cons_zero, List.set_cons_succ, List.getElem_toArray, List.getElem_cons_zero, List.getElem_cons_succ]
                          refine RG.RunsIf.weak (v := ?_) (by rfl) (by rfl) (fun Z hT => ?_) ?_
                          rotate_left
                          · go_simp
                            rfl
                          simp only [Act.put, List.setIfInBounds_toArray, List.set_cons_zero, List.set_cons_succ, List.getElem_toArray, List.getElem_cons_zero, List.getElem_cons_succ]
                          refine RG.RunsIf.weak (v := ?_) (by rfl) (by rfl) (fun Z hT => ?_) ?_
                          rotate_left
                          · go_simp
                            rfl
                          simp only [Act.put, List.setIfInBounds_toArray, List.set_cons_zero, List.set_cons_succ, List.getElem_toArray, List.getElem_cons_zero, List.getElem_cons_succ]
                          refine RG.RunsIf.weak (v := .bool true) (by rfl) (by rfl) (fun Z hT => ?_) ?_
                          · go_simp
                          simp only [Act.put, List.setIfInBounds_toArray, List.set_cons_zero, List.set_cons_succ, List.getElem_toArray, List.getElem_cons_zero, List.getElem_cons_succ]
                          refine RG.RunsIf.weak (v := .bool true) (by rfl) (by rfl) (fun Z hT => ?_) ?_
                          · go_simp
                          simp only [Act.put, List.setIfInBounds_toArray, List.set_cons_zero, List.set_cons_succ, List.getElem_toArray, List.getElem_cons_zero, List.getElem_cons_succ]
                          refine RG.RunsIf.weak (v := ?_) (by rfl) (by rfl) (fun Z hT => ?_) ?_
                          rotate_left
                          · go_simp
                            rfl
                          simp only [Act.put, List.setIfInBounds_toArray, List.set_cons_zero, List.set_cons_succ, List.getElem_toArray, List.getElem_cons_zero, List.getElem_cons_succ]
                          refine RG.RunsIf.weak (v := ?_) (by rfl) (by rfl) (fun Z hT => ?_) ?_
                          rotate_left
                          · go_simp
                            rfl
                          simp only [Act.put, List.setIfInBounds_toArray, List.set_cons_zero, List.set_cons_succ, List.getElem_toArray, List.getElem_cons_zero, List.getElem_cons_succ]
                          refine RG.RunsIf.weak (v := ?_) (by rfl) (by rfl) (fun Z hT => ?_) ?_
                          rotate_left
                          · go_simp
                            rfl
                          simp only [Act.put, List.setIfInBounds_toArray, List.set_cons_zero, List.set_cons_succ, List.getElem_toArray, List.getElem_cons_zero, List.getElem_cons_succ]
                          refine RG.RunsIf.weak (v := .slice (some ⟨b3, o3, none⟩) rn c3) (by rfl) (by rfl) (fun Z hT => ?_) ?_
                          · have y1 := keepC hT y1; have y2 := keepC hT y2; have y3 := keepC hT y3; have y4 := keepC hT y4
                            go_simp
                          simp only [Act.put, List.setIfInBounds_toArray, List.set_cons_zero, List.set_cons_succ, List.getElem_toArray, List.getElem_cons_zero, List.getElem_cons_succ]
                          refine RG.RunsIf.weak (v := ?_) (by rfl) (by rfl) (fun Z hT => ?_) ?_
                          rotate_left
                          · go_simp
                            rfl
                          simp only [Act.put, List.setIfInBounds_toArray, List.set_cons_zero, List.set_cons_succ, List.getElem_toArray, List.getElem_cons_zero, List.getElem_cons_succ]
                          refine RG.RunsIf.weak (v := ?_) (by rfl) (by rfl) (fun Z hT => ?_) ?_
                          rotate_left
                          · go_simp
                            rfl
                          simp only [Act.put, List.setIfInBounds_toArray, List.set_cons_zero, List.set_cons_succ, List.getElem_toArray, List.getElem_cons_zero, List.getElem_cons_succ]
                          refine RG.RunsIf.weak (v := .int .i64 cj) (by rfl) (by rfl) (fun Z hT => ?_) ?_
                          · have y1 := keepC hT y1; have y2 := keepC hT y2; have y3 := keepC hT y3; have y4 := keepC hT y4
                            go_simp
                          simp only [Act.put, List.setIfInBounds_toArray, List.set_cons_zero, List.set_cons_succ, List.getElem_toArray, List.getElem_cons_zero, List.getElem_cons_succ]
                          refine RG.RunsIf.weak (v := ?_) (by rfl) (by rfl) (fun Z hT => ?_) ?_
                          rotate_left
                          · go_simp
                            rfl
                          simp only [Act.put, List.setIfInBounds_toArray, List.set_cons_zero, List.set_cons_succ, List.getElem_toArray, List.getElem_cons_zero, List.getElem_cons_succ]
                          refine RG.RunsIf.weak (v := ?_) (by rfl) (by rfl) (fun Z hT => ?_) ?_
                          rotate_left
                          · go_simp
                            rfl
                          simp only [Act.put, List.setIfInBounds_toArray, List.set_cons_zero, List.set_cons_succ, List.getElem_toArray, List.getElem_cons_zero, List.getElem_cons_succ]
                          refine RG.RunsIf.weak (v := ?_) (by rfl) (by rfl) (fun Z hT => ?_) ?_
                          rotate_left
                          · go_simp
                            rfl
                          simp only [Act.put, List.setIfInBounds_toArray, List.set_cons_zero, List.set_cons_succ, List.getElem_toArray, List.getElem_cons_zero, List.getElem_cons_succ]
                          refine RG.RunsIf.weak (v := .slice (some ⟨b2, o2, none⟩) rn c2) (by rfl) (by rfl) (fun Z hT => ?_) ?_
                          · have y1 := keepC hT y1; have y2 := keepC hT y2; have y3 := keepC hT y3; have y4 := keepC hT y4
                            go_simp
                          simp only [Act.put, List.setIfInBounds_toArray, List.set_cons_zero, List.set_cons_succ, List.getElem_toArray, List.getElem_cons_zero, List.getElem_cons_succ]
                          refine RG.RunsIf.weak (v := ?_) (by rfl) (by rfl) (fun Z hT => ?_) ?_
                          rotate_left
                          · go_simp
                            rfl
                          simp only [Act.put, List.setIfInBounds_toArray, List.set_cons_zero, List.set_cons_succ, List.getElem_toArray, List.getElem_cons_zero, List.getElem_cons_succ]
                          refine RG.RunsIf.weak (v := ?_) (by rfl) (by rfl) (fun Z hT => ?_) ?_
                          rotate_left
                          · go_simp
                            rfl
                          simp only [Act.put, List.setIfInBounds_toArray, List.set_cons_zero, List.set_cons_succ, List.getElem_toArray, List.getElem_cons_zero, List.getElem_cons_succ]
                          refine RG.RunsIf.weak (v := .int .i64 ci) (by rfl) (by rfl) (fun Z hT => ?_) ?_
                          · have y1 := keepC hT y1; have y2 := keepC hT y2; have y3 := keepC hT y3; have y4 := keepC hT y4
                            go_simp
                          simp only [Act.put, List.setIfInBounds_toArray, List.set_cons_zero, List.set_cons_succ, List.getElem_toArray, List.getElem_cons_zero, List.getElem_cons_succ]
                          refine RG.RunsIf.weak (v := .bool true) (by rfl) (by rfl) (fun Z hT => ?_) ?_
                          · go_simp
                          simp only [Act.put, List.setIfInBounds_toArray, List.set_cons_zero, List.set_cons_succ, List.getElem_toArray, List.getElem_cons_zero, List.getElem_cons_succ]
                          refine RG.RunsIf.weak (v := .bool true) (by rfl) (by rfl) (fun Z hT => ?_) ?_
                          · (go_simp) <;> rfl
                          simp only [Act.put, List.setIfInBounds_toArray, List.set_cons_zero, List.set_cons_succ, List.getElem_toArray, List.getElem_cons_zero, List.getElem_cons_succ]
                          refine RG.RunsIf.weak (v := .bool true) (by rfl) (by rfl) (fun Z hT => ?_) ?_
                          · go_simp
                          simp only [Act.put, List.setIfInBounds_toArray, List.set_cons_zero, List.set_cons_succ, List.getElem_toArray, List.getElem_cons_zero, List.getElem_cons_succ]
                          refine RG.RunsIf.weak (v := .bool true) (by rfl) (by rfl) (fun Z hT => ?_) ?_
                          · go_simp
                          simp only [Act.put, List.setIfInBounds_toArray, List.set_cons_zero, List.set_cons_succ, List.getElem_toArray, List.getElem_cons_zero, List.getElem_cons_succ]
                          refine RG.RunsIf.weak (v := ?_) (by rfl) (by rfl) (fun Z hT => ?_) ?_
                          rotate_left
                          · go_simp
                            rfl
                          simp only [Act.put, List.setIfInBounds_toArray, List.set_cons_zero, List.set_cons_succ, List.getElem_toArray, List.getElem_cons_zero, List.getElem_cons_succ]
                          refine RG.RunsIf.weak (v := ?_) (by rfl) (by rfl) (fun Z hT => ?_) ?_
                          rotate_left
                          · go_simp
                            rfl
                          simp only [Act.put, List.setIfInBounds_toArray, List.set_cons_zero, List.set_cons_succ, List.getElem_toArray, List.getElem_cons_zero, List.getElem_cons_succ]
                          refine RG.RunsIf.weak (v := .bool true) (by rfl) (by rfl) (fun Z hT => ?_) ?_
                          · go_simp
                          simp only [Act.put, List.setIfInBounds_toArray, List.set_cons_zero, List.set_cons_succ, List.getElem_toArray, List.getElem_cons_zero, List.getElem_cons_succ]
                          refine RG.RunsIf.weak (v := .bool true) (by rfl) (by rfl) (fun Z hT => ?_) ?_
                          · go_simp
                          simp only [Act.put, List.setIfInBounds_toArray, List.set_cons_zero, List.set_cons_succ, List.getElem_toArray, List.getElem_cons_zero, List.getElem_cons_succ]
                          refine RG.RunsIf.skip (by rfl) (by rfl) ?_
                          simp only [Act.put, List.setIfInBounds_toArray, List.set_cons_zero, List.set_cons_succ, List.getElem_toArray, List.getElem_cons_zero, List.getElem_cons_succ]
                          refine RG.RunsIf.skip (by rfl) (by rfl) ?_
                          simp only [Act.put, List.setIfInBounds_toArray, List.set_cons_zero, List.set_cons_succ, List.getElem_toArray, List.getElem_cons_zero, List.getElem_cons_succ]
                          refine RG.RunsIf.skip (by rfl) (by rfl) ?_
                          simp only [Act.put, List.setIfInBounds_toArray, List.set_cons_zero, List.set_cons_succ, List.getElem_toArray, List.getElem_cons_zero, List.getElem_cons_succ]
                          refine RG.RunsIf.weak (v := .bool true) (by rfl) (by rfl) (fun Z hT => ?_) ?_
                          · (go_simp) <;> rfl
                          simp only [Act.put, List.setIfInBounds_toArray, List.set_cons_zero, List.set_cons_succ, List.getElem_toArray, List.getElem_cons_zero, List.getElem_cons_succ]
                          refine RG.RunsIf.weak (v := .bool true) (by rfl) (by rfl) (fun Z hT => ?_) ?_
                          · go_simp
                          simp only [Act.put, List.setIfInBounds_toArray, List.set_cons_zero, List.set_cons_succ, List.getElem_toArray, List.getElem_cons_zero, List.getElem_cons_succ]
                          refine RG.RunsIf.skip (by rfl) (by rfl) ?_
                          simp only [Act.put, List.setIfInBounds_toArray, List.set_cons_zero, List.set_cons_succ, List.getElem_toArray, List.getElem_cons_zero, List.getElem_cons_succ]
                          refine RG.RunsIf.weak (v := .bool true) (by rfl) (by rfl) (fun Z hT => ?_) ?_
                          · (go_simp) <;> rfl
                          simp only [Act.put, List.setIfInBounds_toArray, List.set_cons_zero, List.set_cons_succ, List.getElem_toArray, List.getElem_cons_zero, List.getElem_cons_succ]
                          refine RG.RunsIf.weak (v := .bool true) (by rfl) (by rfl) (fun Z hT => ?_) ?_
                          · (go_simp) <;> rfl
                          simp only [Act.put, List.setIfInBounds_toArray, List.set_cons_zero, List.set_cons_succ, List.getElem_toArray, List.getElem_cons_zero, List.getElem_cons_succ]
                          refine RG.RunsIf.weak (v := ?_) (by rfl) (by rfl) (fun Z hT => ?_) ?_
                          rotate_left
                          · go_simp
                            rfl
                          simp only [Act.put, List.setIfInBounds_toArray, List.set_cons_zero, List.set_cons_succ, List.getElem_toArray, List.getElem_cons_zero, List.getElem_cons_succ]
                          exact RG.RunsIf.nil
                        refine RG.wpL_done (by kernel_rfl) ?_ _
                        refine NoPanic.normal ?_
                        refine HK.out _ _ ?_
                        clear HK
                        go_wp2
                        go_ret
                        exact ⟨rfl, NBy.out.trans (HTz7.out.mono NBy.out.size)⟩
  · have kc : (clE s l != 0) = true := by simp [hc]
    clear HX knc
    go_wp2
    go_ret
    exact ⟨rfl, NB2.out⟩
end LW
end Go.Proofs.Ytnfimdcpocooiaa
