/-
 The law on what is played: a run is a trace, and so is each beginning.
-/
import Derived.Test.YthgmmggpclmagaaCkC
import Derived.Test.YthgmmggpclmagaaPgK3
import Derived.Test.YthgmmggpclmagaaPlT2
namespace Go.Proofs.Ythgmmggpclmagaa
open List renaming setIfInBounds_toArray → lpA, set_cons_zero → lpZ, set_cons_succ → lpS, getElem_toArray → lgT, getElem_cons_zero → lgZ, getElem_cons_succ → lgS
open Go.RowKit
set_option linter.unusedVariables false
set_option linter.unusedSimpArgs false
namespace LW
open Mc
theorem be_in7 {s : Syst} {l : List Ev} {i j : Nat} (h : (Tr.vR s l).2.2 = 0) (hi : i < l.length) (hj : j < l.length) : beE s l (i : Int) (j : Int) = 0 ∧ beA s l (i : Int) (j : Int) = bfB s l i j := by
 have h1 : beE s l (i : Int) (j : Int) = 0 := by unfold beE; rw [if_pos h, if_pos (by omega)]
 refine ⟨h1, ?_⟩
 unfold beA
 rw [h1]
 simp
theorem bfB_take (s : Syst) (l : List Ev) (n i j : Nat) (hi : i < n) (hj : j < n) : bfB s (l.take n) i j = bfB s l i j := by
 unfold bfB
 rw [Tr.ev_take l n i hi, Tr.ck_take s l _ n i hi, Tr.ck_take s l _ n j hj]
theorem ev_iev {l : List Ev} (h : ∀ j, iEv (Tr.ev l j)) (n : Nat) : ∀ j, iEv (Tr.ev (l.take n) j) := fun j => by
 by_cases hj : j < n
 ·rw [Tr.ev_take l n j hj]; exact h j
 ·have : Tr.ev (l.take n) j = Tr.e0 := by
   unfold Tr.ev
   rw [List.getD_eq_getElem?_getD, List.getElem?_eq_none (by rw [List.length_take]; omega)]
   rfl
  rw [this]
  exact iEv_0
theorem er_take {W : World} {a : Option Addr} {l : List Ev} (h : ER W a l) (n : Nat) : ER W a (l.take n) := by
 rcases h with h | ⟨b, off, e, h⟩
 ·rw [h]; exact .inl (by simp)
 ·refine .inr ⟨b, off, e, fun j hj => ?_⟩
  rw [List.length_take] at hj
  have := h j (by omega)
  rw [List.getD_eq_getElem?_getD] at this ⊢
  rw [List.getElem?_take, if_pos (by omega)]
  exact this
set_option maxRecDepth 100000 in
set_option maxHeartbeats 40000000 in
theorem playedW (s : Syst) (pa : Option Addr) (pc : Nat) (ra : Option Addr) (rc : Nat) (ka : Option Addr) (kc : Nat) (picks : List Int) (ai aj ak : Int) (w : World) (hs : SyI w s pa ra) (hp : PkI w ka kc picks) (hi : i64 ai) (hj : i64 aj) (hk : i64 ak) :
  Calls Try.prog 3 #[.agg (syC s pa pc ra rc), .slice ka picks.length kc, .agg #[.int .i64 ai, .int .i64 aj, .int .i64 ak]] w fun e w' => e = .returned (.bool true) ∧ Below w.heap.size w w' := by
 have HPl : Hid (∀ W, Below w.heap.size w W → Calls Try.prog 5 #[.agg #[.slice pa s.progs.length pc, .slice ra s.rooms.length rc, .int .i64 s.groups, .int .i64 s.locks, .int .i64 s.cells], .slice ka picks.length kc] W (PlaC W s picks)) := fun W hW => pplayC s pa pc ra rc ka kc picks W (hs.below hW) (hp.below hW)
 have HVa : Hid (∀ a c l W, Below w.heap.size w W → EvI W a c l → Calls Try.prog 6 #[.agg #[.slice pa s.progs.length pc, .slice ra s.rooms.length rc, .int .i64 s.groups, .int .i64 s.locks, .int .i64 s.cells], .slice a l.length c] W fun e w' => e = .returned (.tuple #[.int .i64 (Tr.vR s l).1, .int .i64 (Tr.vR s l).2.2]) ∧ Below W.heap.size W w') := fun a c l W hW he => ptvalid s pa pc ra rc a c l W (hs.below hW) he
 have HRu : Hid (∀ a c l W, Below w.heap.size w W → EvI W a c l → Calls Try.prog 7 #[.agg #[.slice pa s.progs.length pc, .slice ra s.rooms.length rc, .int .i64 s.groups, .int .i64 s.locks, .int .i64 s.cells], .slice a l.length c] W fun e w' => e = .returned (.tuple #[.int .i64 (Tr.vR s l).2.1, .int .i64 (Tr.vR s l).2.2]) ∧ Below W.heap.size W w') := fun a c l W hW he => prunners s pa pc ra rc a c l W (hs.below hW) he
 have HBe : Hid (∀ a c l (i j : Int) W, Below w.heap.size w W → EvI W a c l → Calls Try.prog 8 #[.agg #[.slice pa s.progs.length pc, .slice ra s.rooms.length rc, .int .i64 s.groups, .int .i64 s.locks, .int .i64 s.cells], .slice a l.length c, .int .i64 i, .int .i64 j] W fun e w' => e = .returned (.tuple #[.bool (beA s l i j), .int .i64 (beE s l i j)]) ∧ Below W.heap.size W w') := fun a c l i j W hW he => ptbefore s pa pc ra rc a c l i j W (hs.below hW) he
 have HIe : Hid (Ok s → ∀ j, iEv (Tr.ev (play s picks).2.2.evs j)) := fun ho => play_ie ho hs.ni hs.nm picks
 have HTr : Hid (Ok s → Tr.Gd s (play s picks).2.2.evs (play s picks).2.2.evs.length ∧ Tr.rnC (play s picks).2.2.evs = (play s picks).2.2.rns.length ∧ (play s picks).2.2.evs.length ≤ 40000) := fun ho => Tr.play_trace ho hs.nm picks
 unfold syC
 clear hs hp hi hj hk
 have NS0 : Hid (((w.alloc (.cells #[.slice pa s.progs.length pc, .slice ra s.rooms.length rc, .int .i64 s.groups, .int .i64 s.locks, .int .i64 s.cells] 25)).alloc (.cells #[.int .i64 ai, .int .i64 aj, .int .i64 ak] 27)).heap[w.heap.size]? = some (.cells #[.slice pa s.progs.length pc, .slice ra s.rooms.length rc, .int .i64 s.groups, .int .i64 s.locks, .int .i64 s.cells] 25 (0, 0))) := blk_alloc (heap_alloc_new w _)
 have NA0 : Hid (((w.alloc (.cells #[.slice pa s.progs.length pc, .slice ra s.rooms.length rc, .int .i64 s.groups, .int .i64 s.locks, .int .i64 s.cells] 25)).alloc (.cells #[.int .i64 ai, .int .i64 aj, .int .i64 ak] 27)).heap[w.heap.size + 1]? = some (.cells #[.int .i64 ai, .int .i64 aj, .int .i64 ak] 27 (0, 0))) := by
  have h1 := heap_alloc_new (w.alloc (.cells #[.slice pa s.progs.length pc, .slice ra s.rooms.length rc, .int .i64 s.groups, .int .i64 s.locks, .int .i64 s.cells] 25)) (.cells #[.int .i64 ai, .int .i64 aj, .int .i64 ak] 27)
  have h2 : (w.alloc (.cells #[.slice pa s.progs.length pc, .slice ra s.rooms.length rc, .int .i64 s.groups, .int .i64 s.locks, .int .i64 s.cells] 25)).heap.size = w.heap.size + 1 := by simp
  rw [h2] at h1
  exact h1
 have NB0 : Hid (Below w.heap.size w ((w.alloc (.cells #[.slice pa s.progs.length pc, .slice ra s.rooms.length rc, .int .i64 s.groups, .int .i64 s.locks, .int .i64 s.cells] 25)).alloc (.cells #[.int .i64 ai, .int .i64 aj, .int .i64 ak] 27))) := ((Below.refl _ _).alloc (Nat.le_refl _) _).alloc (by simp) _
 go_enter Try.func3, Try.ntmps3
 refine wp_seq_k fun K hK => ?_
 have HK := TW.hide hK
 clear hK
 go_wp2
 refine HK.out _ _ ?_
 clear HK K
 generalize World.alloc _ _ = X at *
 generalize w.heap.size + 1 = ga at *
 have z0 : X.cell? ⟨ga, 0, none⟩ = some (.int .i64 ai) := blk_cell NA0.out rfl
 have z1 : X.cell? ⟨ga, 1, none⟩ = some (.int .i64 aj) := blk_cell NA0.out rfl
 have z2 : X.cell? ⟨ga, 2, none⟩ = some (.int .i64 ak) := blk_cell NA0.out rfl
 refine wp_seq_k fun K hK => ?_
 have HK := TW.hide hK
 clear hK
 go_wp2
 go_quiet (fail)
 go_wp2
 refine HK.out _ _ ?_
 clear HK K
 have hq : Below X.heap.size X (X.drewN nq) := below_drewN (Below.refl _ _) _
 have NS := TW.hide (blk_keep NS0.out hq)
 have NBx : Hid (Below w.heap.size w (X.drewN nq)) := NB0.out.trans (hq.mono NB0.out.size)
 clear hq z0 z1 z2 NS0 NA0 NB0
 generalize X.drewN nq = X1 at *
 refine wp_seq_k fun K hK => ?_
 have HK := TW.hide hK
 clear hK
 go_wp2_with fail
 refine (lalive X1).mono ?_
 rintro e1 W1 ⟨rfl, hb⟩
 have NB1 : Hid (Below w.heap.size w W1) := NBx.out.trans (hb.mono NBx.out.size)
 have NS1 := TW.hide (blk_keep NS.out hb)
 clear hb NBx NS
 go_wp2
 refine HK.out _ _ ?_
 clear HK
 obtain ⟨y0, y1, y2, y3, y4⟩ := cellsY5 NS1.out
 refine wp_seq_k fun K hK => ?_
 have HK := TW.hide hK
 clear hK
 go_wp2_with fail
 refine (HPl.out W1 NB1.out).mono ?_
 rintro e2 W2 ⟨cs, x, r, rfl, ⟨ea, ec, ca, cc, rfl, her, hnr, hec⟩, hb, hok1, hok2⟩
 have hA_ : Below W2.heap.size W2 ((W2.alloc (.cells #[.int .i64 0, .int .i64 0, .slice none 0 0, .int .i64 0, .slice none 0 0] 32)).setRow W2.heap.size #[.int .i64 r.1, .int .i64 r.2.1, .slice ea r.2.2.evs.length ec, .int .i64 (r.2.2.rns.length : Int), .slice ca r.2.2.cells.length cc]) := below_setRow ((Below.refl _ _).alloc (Nat.le_refl _) _) (Nat.le_refl _)
 have NB2 : Hid (Below w.heap.size w ((W2.alloc (.cells #[.int .i64 0, .int .i64 0, .slice none 0 0, .int .i64 0, .slice none 0 0] 32)).setRow W2.heap.size #[.int .i64 r.1, .int .i64 r.2.1, .slice ea r.2.2.evs.length ec, .int .i64 (r.2.2.rns.length : Int), .slice ca r.2.2.cells.length cc])) := (NB1.out.trans (hb.mono NB1.out.size)).trans (hA_.mono (NB1.out.trans (hb.mono NB1.out.size)).size)
 have NS2 := TW.hide (blk_keep (blk_keep NS1.out hb) hA_)
 have NR2 : Hid (((W2.alloc (.cells #[.int .i64 0, .int .i64 0, .slice none 0 0, .int .i64 0, .slice none 0 0] 32)).setRow W2.heap.size #[.int .i64 r.1, .int .i64 r.2.1, .slice ea r.2.2.evs.length ec, .int .i64 (r.2.2.rns.length : Int), .slice ca r.2.2.cells.length cc]).heap[W2.heap.size]? = some (.cells #[.int .i64 r.1, .int .i64 r.2.1, .slice ea r.2.2.evs.length ec, .int .i64 (r.2.2.rns.length : Int), .slice ca r.2.2.cells.length cc] 32 (0, 0))) := setRow_heap _ _ _ _ _ _ (heap_alloc_new W2 _)
 have HER := TW.hide (her.below hA_)
 have HEc := TW.hide hec
 have HO1 := TW.hide hok1
 have HO2 := TW.hide hok2
 clear hb NB1 NS1 HPl y0 y1 y2 y3 y4 her hnr hec hok1 hok2 hA_
 go_wp2_with (refine wpList_store_row (by rfl) 32 _ _ (by rfl) W2.heap.size #[.int .i64 r.1, .int .i64 r.2.1, .slice ea r.2.2.evs.length ec, .int .i64 (r.2.2.rns.length : Int), .slice ca r.2.2.cells.length cc] (by rfl) (by rfl) 32 _ (heap_alloc_new W2 _) (by kernel_rfl) (by rfl) (by simp [Value.oneCell']) ?_; generalize World.setRow _ _ _ = X2 at *; generalize W2.heap.size = g2 at *)
 refine HK.out _ _ ?_
 clear HK
 have NB := NB2
 clear NB2
 by_cases ho : Ok s
 ·obtain ⟨rfl, rfl⟩ := HO1.out ho
  obtain ⟨hg, hrn, hL⟩ := HTr.out ho
  have hv : Tr.vR s (play s picks).2.2.evs = (0, (Tr.rnC (play s picks).2.2.evs : Int), 0) := Tr.vR_good ho (by omega) hg
  have HEI : Hid (EvI X2 ea ec (play s picks).2.2.evs) := ⟨HER.out, HIe.out ho, HEc.out.1, HEc.out.2.1, HEc.out.2.2⟩
  have HVt : Hid (∀ n, n ≤ (play s picks).2.2.evs.length → (Tr.vR s ((play s picks).2.2.evs.take n)).2.2 = 0) := fun n hn => by
   rw [Tr.vR_good ho (by rw [List.length_take]; omega) (Tr.Gd_take n hg)]
  have HV1 := TW.hide (fun W hW he => HVa.out ea ec (play s picks).2.2.evs W hW he)
  have HR1 := TW.hide (fun W hW he => HRu.out ea ec (play s picks).2.2.evs W hW he)
  rw [hv] at HV1 HR1
  rw [hrn] at HR1
  have HIe' := TW.hide (HIe.out ho)
  clear HO1 HO2 HTr HER hg hrn hv HVa HRu HIe ho
  generalize (play s picks).2.2.evs = E at *
  generalize (play s picks).2.2.rns.length = rn at *
  generalize (play s picks).1 = r1 at *
  generalize (play s picks).2.1 = r2 at *
  generalize (play s picks).2.2.cells.length = cl at *
  obtain ⟨EL, hEL⟩ : ∃ EL, E.length = EL := ⟨_, rfl⟩
  have HEL := TW.hide hEL
  rw [hEL] at NR2 HV1 HR1 HVt HEc ⊢
  have hEc := HEc.out
  clear hEL hL
  obtain ⟨y0, y1, y2, y3, y4⟩ := cellsY5 NS2.out
  obtain ⟨t0, t1, t2, t3, t4⟩ := cellsY5 NR2.out
  refine wp_seq_k fun K hK => ?_
  have HK := TW.hide hK
  clear hK
  go_wp2
  refine HK.out _ _ ?_
  clear HK
  refine wp_seq_k fun K hK => ?_
  have HK := TW.hide hK
  clear hK
  go_wp2
  refine HK.out _ _ ?_
  clear HK
  refine wp_seq_k fun K hK => ?_
  have HK := TW.hide hK
  clear hK
  go_wp2_with fail
  refine (HV1.out X2 NB.out HEI.out).mono ?_
  rintro e3 W3 ⟨rfl, hb⟩
  have NBn : Hid (Below w.heap.size w W3) := NB.out.trans (hb.mono NB.out.size)
  have NS3 := TW.hide (blk_keep NS2.out hb)
  have NR3 := TW.hide (blk_keep NR2.out hb)
  have HE3 := TW.hide (HEI.out.below hb)
  clear NB NS2 NR2 HEI HV1 y0 y1 y2 y3 y4 t0 t1 t2 t3 t4 hb
  have NB := NBn
  clear NBn
  go_wp2
  refine HK.out _ _ ?_
  clear HK
  obtain ⟨y0, y1, y2, y3, y4⟩ := cellsY5 NS3.out
  refine wp_seq_k fun K hK => ?_
  have HK := TW.hide hK
  clear hK
  go_wp2_with fail
  refine (HR1.out W3 NB.out HE3.out).mono ?_
  rintro e4 W4 ⟨rfl, hb⟩
  have NBn : Hid (Below w.heap.size w W4) := NB.out.trans (hb.mono NB.out.size)
  have NS4 := TW.hide (blk_keep NS3.out hb)
  have NR4 := TW.hide (blk_keep NR3.out hb)
  have HE4 := TW.hide (HE3.out.below hb)
  clear NB NS3 NR3 HE3 HR1 y0 y1 y2 y3 y4 hb
  have NB := NBn
  clear NBn
  go_wp2
  refine HK.out _ _ ?_
  clear HK
  obtain ⟨t0, t1, t2, t3, t4⟩ := cellsY5 NR4.out
  have krn : ((rn : Int) != (rn : Int)) = false := by simp
  refine wp_seq_k fun K hK => ?_
  have HK := TW.hide hK
  clear hK
  go_wp2
  refine HK.out _ _ ?_
  clear HK krn t0 t1 t2 t3 t4
  by_cases h1 : ak < 0
  ·clear HEc hEc
   go_wp2
   go_ret
   exact ⟨rfl, NB.out⟩
  ·by_cases h2 : (EL : Int) < ak
   ·clear HEc hEc
    go_wp2
    go_ret
    exact ⟨rfl, NB.out⟩
   ·by_cases h3 : ai < 0
    ·have k2 : ((EL : Int) < ak) = False := by simp; omega
     clear HEc hEc h2
     go_wp2
     go_ret
     exact ⟨rfl, NB.out⟩
    ·by_cases h4 : aj < 0
     ·have k2 : ((EL : Int) < ak) = False := by simp; omega
      clear HEc hEc h2
      go_wp2
      go_ret
      exact ⟨rfl, NB.out⟩
     ·by_cases h5 : ak ≤ ai
      ·have k2 : ((EL : Int) < ak) = False := by simp; omega
       clear HEc hEc h2
       go_wp2
       go_ret
       exact ⟨rfl, NB.out⟩
      ·by_cases h6 : ak ≤ aj
       ·have k2 : ((EL : Int) < ak) = False := by simp; omega
        have k5 : ai < ak := by omega
        clear HEc hEc h2 h5
        go_wp2
        go_ret
        exact ⟨rfl, NB.out⟩
       ·obtain ⟨cut, rfl⟩ : ∃ cut : Nat, ak = (cut : Int) := ⟨ak.toNat, by omega⟩
        obtain ⟨i, rfl⟩ : ∃ i : Nat, ai = (i : Int) := ⟨ai.toNat, by omega⟩
        obtain ⟨j, rfl⟩ : ∃ j : Nat, aj = (j : Int) := ⟨aj.toNat, by omega⟩
        have hc : cut ≤ EL := by omega
        have hi : i < cut := by omega
        have hj : j < cut := by omega
        obtain ⟨bb, hbb⟩ : ∃ bb, bfB s E i j = bb := ⟨_, rfl⟩
        have HB1 : Hid (∀ W, Below w.heap.size w W → EvI W ea ec E → Calls Try.prog 8 #[.agg #[.slice pa s.progs.length pc, .slice ra s.rooms.length rc, .int .i64 s.groups, .int .i64 s.locks, .int .i64 s.cells], .slice ea EL ec, .int .i64 (i : Int), .int .i64 (j : Int)] W fun e w' => e = .returned (.tuple #[.bool bb, .int .i64 0]) ∧ Below W.heap.size W w') := fun W hW he => by
         have := HBe.out ea ec E (i : Int) (j : Int) W hW he
         obtain ⟨e1, e2⟩ := be_in7 (by have := HVt.out EL (Nat.le_refl _); rw [← HEL.out, List.take_length] at this; exact this) (by rw [HEL.out]; omega : i < E.length) (by rw [HEL.out]; omega : j < E.length)
         rw [e1, e2, hbb, HEL.out] at this
         exact this
        have HB2 : Hid (∀ W, Below w.heap.size w W → EvI W ea ec (E.take cut) → Calls Try.prog 8 #[.agg #[.slice pa s.progs.length pc, .slice ra s.rooms.length rc, .int .i64 s.groups, .int .i64 s.locks, .int .i64 s.cells], .slice ea cut ec, .int .i64 (i : Int), .int .i64 (j : Int)] W fun e w' => e = .returned (.tuple #[.bool bb, .int .i64 0]) ∧ Below W.heap.size W w') := fun W hW he => by
         have hl : (E.take cut).length = cut := by rw [List.length_take, HEL.out]; omega
         have := HBe.out ea ec (E.take cut) (i : Int) (j : Int) W hW he
         obtain ⟨e1, e2⟩ := be_in7 (HVt.out cut hc) (by rw [hl]; exact hi) (by rw [hl]; exact hj)
         rw [e1, e2, bfB_take s E cut i j hi hj, hbb, hl] at this
         exact this
        have HTk : Hid (∀ W, EvI W ea ec E → EvI W ea ec (E.take cut)) := fun W he => ⟨er_take he.er cut, ev_iev he.ie cut, by rw [List.length_take, HEL.out]; have := hEc.1; omega, he.ln, he.nn⟩
        have k2 : ((EL : Int) < (cut : Int)) = False := by simp; omega
        have k5 : (i : Int) < (cut : Int) := by omega
        have k6 : (j : Int) < (cut : Int) := by omega
        have k7 : cut ≤ ec := by have := hEc.1; omega
        have k8 : (0 : Int) ≤ (cut : Int) := by omega
        have k9 : (cut : Int) ≤ (ec : Int) := by omega
        clear h1 h2 h3 h4 h5 h6 hc hi hj hbb HBe HVt HEc hEc HIe' HEL
        refine wp_seq_k fun K hK => ?_
        have HK := TW.hide hK
        clear hK
        go_wp2
        refine HK.out _ _ ?_
        clear HK
        obtain ⟨y0, y1, y2, y3, y4⟩ := cellsY5 NS4.out
        refine wp_seq_k fun K hK => ?_
        have HK := TW.hide hK
        clear hK
        go_wp2_with fail
        refine (HB1.out W4 NB.out HE4.out).mono ?_
        rintro e5 W5 ⟨rfl, hb⟩
        have NBn : Hid (Below w.heap.size w W5) := NB.out.trans (hb.mono NB.out.size)
        have NS5 := TW.hide (blk_keep NS4.out hb)
        have HE5 := TW.hide (HTk.out _ (HE4.out.below hb))
        clear NB NS4 NR4 HE4 HB1 y0 y1 y2 y3 y4 hb
        have NB := NBn
        clear NBn
        go_wp2
        refine HK.out _ _ ?_
        clear HK
        have HX5 : Hid (Below W5.heap.size W5 W5) := Below.refl _ _
        refine wp_seq_k fun K hK => ?_
        have HK := TW.hide hK
        clear hK
        refine wp_region_noPanic ?_
        refine RG.wp_region_L (fun Z => True) (fun Z => Below W5.heap.size W5 Z) [] (by kernel_rfl) ?_
        refine RG.wpL_any fun Yq hY => ?_
        have HTq : Hid (Below W5.heap.size W5 Yq) := by rw [hY]; exact below_drewN HX5.out 1
        clear hY
        refine RG.wpL_take (fuel := 6) (a' := ?Aq) [0, 1, 2, 3, 4, 5] (by kernel_rfl) (by kernel_rfl) (fun _ _ _ _ _ h => h) HTq.out (fun _ => trivial) ?rq ?_
        case rq =>
         refine RG.RunsIf.weak (v := .agg #[.slice pa s.progs.length pc, .slice ra s.rooms.length rc, .int .i64 s.groups, .int .i64 s.locks, .int .i64 s.cells]) (by rfl) (by rfl) (fun Z hT => ?_) ?_
         ·obtain ⟨y0, y1, y2, y3, y4⟩ := cellsY5 (blk_keep NS5.out hT)
          go_simp
         simp only [Act.put, lpA, lpZ, lpS, lgT, lgZ, lgS]
         iterate 2
          refine RG.RunsIf.weak (v := ?_) (by rfl) (by rfl) (fun Z hT => ?_) ?_
          rotate_left
          ·go_simp
           rfl
          simp only [Act.put, lpA, lpZ, lpS, lgT, lgZ, lgS]
         refine RG.RunsIf.weak (v := .slice ea cut ec) (by rfl) (by rfl) (fun Z hT => ?_) ?_
         ·go_simp
         simp only [Act.put, lpA, lpZ, lpS, lgT, lgZ, lgS]
         iterate 2
          refine RG.RunsIf.weak (v := ?_) (by rfl) (by rfl) (fun Z hT => ?_) ?_
          rotate_left
          ·go_simp
           rfl
          simp only [Act.put, lpA, lpZ, lpS, lgT, lgZ, lgS]
         exact RG.RunsIf.nil
        refine RG.wpL_step (i := 6) (by kernel_rfl) (by rfl) (by rfl) (fun KX hK => ?_)
        have HK := TW.hide hK
        clear hK
        go_simp
        refine (HB2.out Yq (NB.out.trans (HTq.out.mono NB.out.size)) (HE5.out.below HTq.out)).mono ?_
        rintro e_W6 W6 ⟨rfl, hb⟩
        have HT6 : Hid (Below W5.heap.size W5 W6) := HTq.out.trans (hb.mono HTq.out.size)
        refine HK.out _ _ HT6.out (fun _ => trivial) ?_
        clear HK KX hb
        try simp only [Act.put, lpA, lpZ, lpS, lgT, lgZ, lgS]
        refine RG.wpL_take (fuel := 0) (a' := ?Aqx) [7, 8, 9, 10, 11] (by kernel_rfl) (by kernel_rfl) (fun _ _ _ _ _ h => h) HT6.out (fun _ => trivial) ?rqx ?_
        case rqx =>
         iterate 5
          refine RG.RunsIf.weak (v := ?_) (by rfl) (by rfl) (fun Z hT => ?_) ?_
          rotate_left
          ·go_simp
           rfl
          simp only [Act.put, lpA, lpZ, lpS, lgT, lgZ, lgS]
         exact RG.RunsIf.nil
        refine RG.wpL_done (by kernel_rfl) ?_ _
        refine NoPanic.normal ?_
        refine HK.out _ _ ?_
        clear HK
        have NB6 : Hid (Below w.heap.size w W6) := NB.out.trans (HT6.out.mono NB.out.size)
        have kbb : (bb == bb) = true := by simp
        go_wp2
        go_ret
        exact ⟨rfl, NB6.out⟩
 ·obtain ⟨rfl, rfl⟩ := HO2.out ho
  have HV1 := TW.hide (fun W hW => HVa.out none 0 [] W hW ⟨.inl rfl, fun j => by
   have : Tr.ev [] j = Tr.e0 := rfl
   rw [this]; exact iEv_0, Nat.le_refl _, by omega, fun _ => rfl⟩)
  rw [Tr.vR_sys ho] at HV1
  clear HO1 HO2 HTr HER HVa HRu HIe HBe HEc ho NR2
  obtain ⟨y0, y1, y2, y3, y4⟩ := cellsY5 NS2.out
  have HV2 : Hid (∀ W, Below w.heap.size w W → Calls Try.prog 6 #[.agg #[.slice pa s.progs.length pc, .slice ra s.rooms.length rc, .int .i64 s.groups, .int .i64 s.locks, .int .i64 s.cells], .slice none 0 0] W fun e w' => e = .returned (.tuple #[.int .i64 0, .int .i64 130]) ∧ Below W.heap.size W w') := HV1.out
  go_wp2_with fail
  refine (HV2.out X2 NB.out).mono ?_
  rintro e3 W3 ⟨rfl, hb⟩
  have NB3 : Hid (Below w.heap.size w W3) := NB.out.trans (hb.mono NB.out.size)
  clear NB hb y0 y1 y2 y3 y4 HV1 HV2
  go_wp2
  go_ret
  exact ⟨rfl, NB3.out⟩
end LW
end Go.Proofs.Ythgmmggpclmagaa
