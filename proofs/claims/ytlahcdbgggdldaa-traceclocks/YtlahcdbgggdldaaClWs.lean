/-
 The law on Clocks.
-/
import Derived.Test.YtlahcdbgggdldaaDcAs
import Derived.Test.YtlahcdbgggdldaaTvCs
namespace Go.Proofs.Ytlahcdbgggdldaa
open List renaming setIfInBounds_toArray → lpA, set_cons_zero → lpZ, set_cons_succ → lpS, getElem_toArray → lgT, getElem_cons_zero → lgZ, getElem_cons_succ → lgS
open Go.RowKit
set_option linter.unusedVariables false
set_option linter.unusedSimpArgs false
namespace LW
open Mc
set_option maxRecDepth 100000 in
set_option maxHeartbeats 4000000 in
theorem lalikes (a b : Option Addr) (ac bc : Nat) (xs : List Int) (w : World) (h1 : NR w a xs) (h2 : NR w b xs) (hn : xs.length ≤ 9223372036854775807) :
  Calls Try.prog 13 #[.slice a xs.length ac, .slice b xs.length bc] w fun e w' => e = .returned (.bool true) ∧ Below w.heap.size w w' := by
 have HX : Hid (∀ k W, k < xs.length → Below w.heap.size w W → ∃ b1 o1 b2 o2, a = some ⟨b1, o1, none⟩ ∧ b = some ⟨b2, o2, none⟩ ∧ W.cell? ⟨b1, o1 + k, none⟩ = some (.int .i64 (xs.getD k 0)) ∧ W.cell? ⟨b2, o2 + k, none⟩ = some (.int .i64 (xs.getD k 0))) := fun k W hk hW => by
  rcases h1 with h | ⟨b1, o1, rfl, hc1⟩
  ·rw [h] at hk; simp at hk
  rcases h2 with h | ⟨b2, o2, rfl, hc2⟩
  ·rw [h] at hk; simp at hk
  exact ⟨b1, o1, b2, o2, rfl, rfl, keepC hW (hc1 k hk), keepC hW (hc2 k hk)⟩
 clear h1 h2
 have kn : ((xs.length : Int) != (xs.length : Int)) = false := by simp
 generalize xs.length = n at *
 go_enter Try.func13, Try.ntmps13
 go_wp2
 go_loopw [5] (fun i wr => ∃ k : Nat, k ≤ n ∧ i = .int .i64 (k : Int) ∧ Hid (Below w.heap.size w wr)) (fun i wr => n - (intOf i).toNat)
 case atStart => exact ⟨0, Nat.zero_le _, rfl, TW.hide (Below.refl _ _)⟩
 case round =>
  obtain ⟨k, hk, rfl, HB⟩ := hrel
  by_cases hlt : k < n
  ·obtain ⟨b1, o1, b2, o2, rfl, rfl, x1, x2⟩ := HX.out k wr hlt HB.out
   have hk1 : (k : Int) < (n : Int) := by omega
   have hk0 : (0 : Int) ≤ (k : Int) := by omega
   have kx : (xs.getD k 0 != xs.getD k 0) = false := by simp
   generalize xs.getD k 0 = x at *
   go_wp2
   go_quiet (fail)
   go_wp2
   go_roundw
   case rel => exact ⟨k + 1, hlt, by go_num, TW.hide (below_drewN HB.out _)⟩
   case measure => simp [intOf]; omega
  ·have hk1 : ¬ (k : Int) < (n : Int) := by omega
   go_wp2
   go_ret
   exact ⟨rfl, HB.out⟩
set_option maxRecDepth 100000 in
set_option maxHeartbeats 40000000 in
theorem clocksW (s : Syst) (pa : Option Addr) (pc : Nat) (ra : Option Addr) (rc : Nat) (la : Option Addr) (lc : Nat) (l : List Ev) (w : World) (hs : SyI w s pa ra) (hl : EvI w la lc l) (hz : l.length ≤ 3518437208780) :
  Calls Try.prog 4 #[.agg (syC s pa pc ra rc), .slice la l.length lc] w fun e w' => e = .returned (.bool true) ∧ Below w.heap.size w w' := by
 unfold syC
 have HEl := TW.hide hl
 have HSl := TW.hide hs
 have HCo : Hid (∀ W, Below w.heap.size w W → Calls Try.prog 7 #[.slice la l.length lc] W fun e w' => ∃ a c, e = .returned (.slice a l.length c) ∧ EvI w' a c l ∧ Below W.heap.size W w') := fun W hW => lcopied la lc l W (hl.below hW) hz
 have HP1 : Hid (∀ a c W, Below w.heap.size w W → EvI W a c l → Calls Try.prog 11 #[.agg #[.slice pa s.progs.length pc, .slice ra s.rooms.length rc, .int .i64 s.groups, .int .i64 s.locks, .int .i64 s.cells], .slice a l.length c] W (ClU W s l)) := fun a c W hW he => ptclocksU s pa pc ra rc a c l W (hs.below hW) he
 have HP2 : Hid (∀ W, Below w.heap.size w W → Calls Try.prog 12 #[.agg #[.slice pa s.progs.length pc, .slice ra s.rooms.length rc, .int .i64 s.groups, .int .i64 s.locks, .int .i64 s.cells], .slice la l.length lc] W (ClU W s l)) := fun W hW => rtclocksU s pa pc ra rc la lc l W (hs.below hW) (hl.below hW)
 have HCl := TW.hide (clC_len s l)
 have HN4 : Hid (clQ s l ≤ 40000) := clQ_le s l
 unfold ClU at HP1 HP2
 generalize clC s l = C at *
 generalize clE s l = E at *
 generalize clQ s l = N at *
 clear hs hl hz
 have kx : ∀ x : Int, (x != x) = false := fun x => by simp
 obtain ⟨i3, hi3, hz30, hz31, hz32⟩ := info_parts' intinfo
 have hA : Below w.heap.size w (w.alloc (.cells #[.slice pa s.progs.length pc, .slice ra s.rooms.length rc, .int .i64 s.groups, .int .i64 s.locks, .int .i64 s.cells] 25)) := (Below.refl _ _).alloc (Nat.le_refl _) _
 have N1 : Hid ((w.alloc (.cells #[.slice pa s.progs.length pc, .slice ra s.rooms.length rc, .int .i64 s.groups, .int .i64 s.locks, .int .i64 s.cells] 25)).heap[w.heap.size]? = some (.cells #[.slice pa s.progs.length pc, .slice ra s.rooms.length rc, .int .i64 s.groups, .int .i64 s.locks, .int .i64 s.cells] 25 (0, 0))) := heap_alloc_new w _
 have NB := TW.hide hA
 clear hA
 go_enter Try.func4, Try.ntmps4
 refine wp_seq_k fun K hK => ?_
 have HK := TW.hide hK
 clear hK
 go_wp2
 refine HK.out _ _ ?_
 clear HK K
 generalize w.alloc _ = X at *
 refine wp_seq_k fun K1 hK1 => ?_
 have HK1 := TW.hide hK1
 clear hK1
 go_wp2_with fail
 refine (HCo.out X NB.out).mono ?_
 rintro e1 W1 ⟨ca, cc, rfl, hce, hb⟩
 have HE1 := TW.hide hce
 have NB1 : Hid (Below w.heap.size w W1) := NB.out.trans (hb.mono NB.out.size)
 have NS := TW.hide (blk_keep N1.out hb)
 clear hb NB N1 hce HCo
 go_wp2
 refine HK1.out _ _ ?_
 clear HK1
 refine wp_seq_k fun Kz hKz => ?_
 have HKz := TW.hide hKz
 clear hKz
 go_wp2
 go_loopw [6] (fun tv wr => ∃ t : Nat, t ≤ 2 ∧ tv = .int .i64 (t : Int) ∧ Hid (EvI wr ca cc l) ∧ Hid (wr.heap[w.heap.size]? = some (.cells #[.slice pa s.progs.length pc, .slice ra s.rooms.length rc, .int .i64 s.groups, .int .i64 s.locks, .int .i64 s.cells] 25 (0, 0))) ∧ Hid (Below w.heap.size w wr)) (fun tv wr => 2 - (intOf tv).toNat)
 case atStart => exact ⟨0, by omega, rfl, HE1, NS, NB1⟩
 case round =>
  clear HE1 NS NB1
  obtain ⟨t, ht, rfl, HE, NS, HB⟩ := hrel
  by_cases hlt : t < 2
  ·have qt1 : (t : Int) < 2 := by omega
   obtain ⟨wo0, rfl⟩ : ∃ x, x = wr := ⟨_, rfl⟩
   refine wp_seq_k fun K1 hK1 => ?_
   have HK1 := TW.hide hK1
   clear hK1
   go_wp2
   refine HK1.out _ _ ?_
   clear HK1
   refine wp_seq_k fun Kt hKt => ?_
   have HKt := TW.hide hKt
   clear hKt
   refine wp_block ?_
   obtain ⟨s0, s1, s2, s3, s4⟩ := cellsY5 NS.out
   refine wp_seq_k fun K1 hK1 => ?_
   have HK1 := TW.hide hK1
   clear hK1
   go_wp2_with fail
   refine (HP1.out ca cc wo0 HB.out HE.out).mono ?_
   rintro e2 W2 ⟨Ba, ha, va, rfl, hBa, hLa, hb⟩
   have HBo2 : Hid (Below wo0.heap.size wo0 W2) := hb
   have NS2 := TW.hide (blk_keep NS.out hb)
   have HLa := TW.hide hLa
   have HBa : Hid (wo0.heap.size ≤ Ba) := hBa
   obtain ⟨haa, hac, rfl⟩ := hLa.hIs
   clear hb hBa hLa s0 s1 s2 s3 s4
   go_wp2
   refine HK1.out _ _ ?_
   clear HK1
   obtain ⟨s0, s1, s2, s3, s4⟩ := cellsY5 NS2.out
   refine wp_seq_k fun K1 hK1 => ?_
   have HK1 := TW.hide hK1
   clear hK1
   go_wp2_with fail
   refine (HP2.out W2 (HB.out.trans (HBo2.out.mono HB.out.size))).mono ?_
   rintro e3 W3 ⟨Bb, hb0, vb, rfl, hBb, hLb, hb⟩
   have HBo3 : Hid (Below wo0.heap.size wo0 W3) := HBo2.out.trans (hb.mono HBo2.out.size)
   have HLa3 := TW.hide (HLa.out.below hb)
   have HLb := TW.hide hLb
   obtain ⟨hba, hbc, rfl⟩ := hLb.hIs
   clear hb hBb hLb s0 s1 s2 s3 s4 HLa HBo2 NS2
   go_wp2
   refine HK1.out _ _ ?_
   clear HK1
   refine wp_seq_k fun K1 hK1 => ?_
   have HK1 := TW.hide hK1
   clear hK1
   go_wp2
   refine HK1.out _ _ ?_
   clear HK1
   have HBs0 := HBo3.out.size
   obtain ⟨wo, hwo⟩ : ∃ x, x = wo0 := ⟨_, rfl⟩
   rw [← hwo] at HBo3 HBa HB NS HE
   have HEc := HE
   have NSo := NS
   have HBo := HB
   have HLa := HLa3
   have HB2 := HBo3
   clear hwo HE NS HB HLa3 HBo3 HBs0
   refine wp_seq_k fun Kc hKc => ?_
   have HKc := TW.hide hKc
   clear hKc
   go_wp2
   go_loopw [11] (fun iv wr => ∃ i : Nat, i ≤ N ∧ iv = .int .i64 (i : Int) ∧ Hid (LL wr Ba N (.slice haa N hac) va va C) ∧ Hid (LL wr Bb N (.slice hba N hbc) vb vb C) ∧ Hid (Below wo.heap.size wo wr)) (fun iv wr => N - (intOf iv).toNat)
   case atStart => exact ⟨0, Nat.zero_le _, rfl, HLa, HLb, HB2⟩
   case round =>
    clear HLa HLb HB2
    obtain ⟨i, hi, rfl, HLa, HLb, HB2⟩ := hrel
    by_cases hlt : i < N
    ·have qi1 : (i : Int) < (N : Int) := by omega
     have qi0 : (0 : Int) ≤ (i : Int) := by omega
     have hi41 : i + 1 ≤ 40000 := by have := HN4.out; omega
     obtain ⟨b1, c1, e1, _, y1, _⟩ := HLa.out.hAt i hlt
     obtain ⟨b2, c2, e2, _, y2, _⟩ := HLb.out.hAt i hlt
     injection e1 with e11 _ e13
     injection e2 with e21 _ e23
     subst e11 e13 e21 e23
     obtain ⟨a1, k1, f1, r1⟩ := HLa.out.rIs i
     obtain ⟨a2, k2, f2, r2⟩ := HLb.out.rIs i
     obtain ⟨R, hR⟩ : ∃ R, (C i).length = R := ⟨_, rfl⟩
     have HAl : Hid (∀ W, Below wr.heap.size wr W → Calls Try.prog 13 #[.slice a1 R k1, .slice a2 R k2] W fun e w' => e = .returned (.bool true) ∧ Below W.heap.size W w') := fun W hW => by
      have h9 := lalikes a1 a2 k1 k2 (C i) W (r1.below hW) (r2.below hW) (by have := HCl.out i; omega)
      rw [hR] at h9
      exact h9
     rw [hR] at f1 f2
     rw [f1] at y1
     rw [f2] at y2
     have HIL := TW.hide hlt
     have HXr : Hid (Below wr.heap.size wr wr) := Below.refl _ _
     clear f1 f2 r1 r2 hR hlt hi
     obtain ⟨wc, rfl⟩ : ∃ x, x = wr := ⟨_, rfl⟩
     refine wp_seq_k fun K1 hK1 => ?_
     have HK1 := TW.hide hK1
     clear hK1
     go_wp2
     refine HK1.out _ _ ?_
     clear HK1
     refine wp_seq_k fun Kb hKb => ?_
     have HKb := TW.hide hKb
     clear hKb
     refine wp_block ?_
     refine wp_seq_k fun K8 hK8 => ?_
     have HK8 := TW.hide hK8
     clear hK8
     refine wp_region_noPanic ?_
     refine RG.wp_region_L (fun Z => True) (fun Z => Below wc.heap.size wc Z) [] (by kernel_rfl) ?_
     refine RG.wpL_any fun Yc hY => ?_
     have HTc : Hid (Below wc.heap.size wc Yc) := by rw [hY]; exact below_drewN HXr.out 1
     clear hY
     refine RG.wpL_take (fuel := 2) (a' := ?Ac) [0, 1, 2, 3, 4, 5, 6, 7] (by kernel_rfl) (by kernel_rfl) (fun _ _ _ _ _ h => h) HTc.out (fun _ => trivial) ?rc ?_
     case rc =>
      iterate 3
       refine RG.RunsIf.weak (v := ?_) (by rfl) (by rfl) (fun Z hT => ?_) ?_
       rotate_left
       ·go_simp
        rfl
       simp only [Act.put, lpA, lpZ, lpS, lgT, lgZ, lgS]
      refine RG.RunsIf.weak (v := .slice a1 R k1) (by rfl) (by rfl) (fun Z hT => ?_) ?_
      ·have y1 := keepC hT y1; have y2 := keepC hT y2
       go_simp
      simp only [Act.put, lpA, lpZ, lpS, lgT, lgZ, lgS]
      iterate 3
       refine RG.RunsIf.weak (v := ?_) (by rfl) (by rfl) (fun Z hT => ?_) ?_
       rotate_left
       ·go_simp
        rfl
       simp only [Act.put, lpA, lpZ, lpS, lgT, lgZ, lgS]
      refine RG.RunsIf.weak (v := .slice a2 R k2) (by rfl) (by rfl) (fun Z hT => ?_) ?_
      ·have y1 := keepC hT y1; have y2 := keepC hT y2
       go_simp
      simp only [Act.put, lpA, lpZ, lpS, lgT, lgZ, lgS]
      exact RG.RunsIf.nil
     refine RG.wpL_step (i := 8) (by kernel_rfl) (by rfl) (by rfl) (fun KX hK => ?_)
     have HK := TW.hide hK
     clear hK
     go_simp
     refine (HAl.out Yc HTc.out).mono ?_
     rintro e_Wd Wd ⟨rfl, hb⟩
     have HTd : Hid (Below wc.heap.size wc Wd) := HTc.out.trans (hb.mono HTc.out.size)
     refine HK.out _ _ HTd.out (fun _ => trivial) ?_
     clear HK KX hb
     try simp only [Act.put, lpA, lpZ, lpS, lgT, lgZ, lgS]
     refine RG.wpL_take (fuel := 0) (a' := ?Acx) [9] (by kernel_rfl) (by kernel_rfl) (fun _ _ _ _ _ h => h) HTd.out (fun _ => trivial) ?rcx ?_
     case rcx =>
      refine RG.RunsIf.weak (v := ?_) (by rfl) (by rfl) (fun Z hT => ?_) ?_
      rotate_left
      ·go_simp
       rfl
      simp only [Act.put, lpA, lpZ, lpS, lgT, lgZ, lgS]
      exact RG.RunsIf.nil
     refine RG.wpL_done (by kernel_rfl) ?_ _
     refine NoPanic.normal ?_
     refine HK8.out _ _ ?_
     clear HK8
     have HLa' := TW.hide (HLa.out.below HTd.out)
     have HLb' := TW.hide (HLb.out.below HTd.out)
     have HB3 : Hid (Below wo.heap.size wo Wd) := HB2.out.trans (HTd.out.mono HB2.out.size)
     go_wp2
     refine HKb.out _ _ ?_
     go_wp2
     go_roundw
     case rel => exact ⟨i + 1, HIL.out, by go_num, HLa', HLb', HB3⟩
     case measure => simp [intOf]; have := HIL.out; omega
    ·obtain rfl : N = i := by omega
     have qk : ¬ (N : Int) < (N : Int) := by omega
     clear hlt hi HLb
     go_wp2
     refine HKc.out _ _ ?_
     clear HKc
     obtain ⟨wd, rfl⟩ : ∃ x, x = wr := ⟨_, rfl⟩
     go_wp2
     go_loopw [12] (fun iv wr => ∃ (i : Nat) (vs : Nat → Value) (cs : Nat → List Int), i ≤ N ∧ iv = .int .i64 (i : Int) ∧ Hid (∀ j, i ≤ j → (cs j).length ≤ 512) ∧ Hid (LL wr Ba N (.slice haa N hac) vs vs cs) ∧ Hid (Below wo.heap.size wo wr)) (fun iv wr => N - (intOf iv).toNat)
     case atStart => exact ⟨0, va, C, Nat.zero_le _, rfl, TW.hide (fun j _ => HCl.out j), HLa, HB2⟩
     case round =>
      clear HLa HB2
      obtain ⟨i, vs, cs, hi, rfl, HFa, HL, HB2⟩ := hrel
      by_cases hlt : i < N
      ·have qi1 : (i : Int) < (N : Int) := by omega
       have qi0 : (0 : Int) ≤ (i : Int) := by omega
       have hi41 : i + 1 ≤ 40000 := by have := HN4.out; omega
       have HIL := TW.hide hlt
       have kn : IntKind.i64.wrap (-1 - (i : Int)) = -1 - (i : Int) := by rw [IntKind.wrap_i64]; omega
       have HKn := TW.hide kn
       obtain ⟨b1, c1, e1, _, _, _⟩ := HL.out.hAt i hlt
       injection e1 with e11 _ e13
       subst e11 e13
       obtain ⟨a1, k1, f1, _⟩ := HL.out.rIs i
       obtain ⟨R, hR⟩ : ∃ R, (cs i).length = R := ⟨_, rfl⟩
       have hR5 : R ≤ 512 := by have := HFa.out i (Nat.le_refl _); omega
       rw [hR] at f1
       have HF1 := TW.hide f1
       have HR0 : Hid ((cs i).length = R) := hR
       clear hlt hi kn f1 hR
       obtain ⟨wf, rfl⟩ : ∃ x, x = wr := ⟨_, rfl⟩
       refine wp_seq_k fun K1 hK1 => ?_
       have HK1 := TW.hide hK1
       clear hK1
       go_wp2
       refine HK1.out _ _ ?_
       clear HK1
       refine wp_seq_k fun Kb hKb => ?_
       have HKb := TW.hide hKb
       clear hKb
       refine wp_block ?_
       refine wp_seq_k fun Kc hKc => ?_
       have HKc := TW.hide hKc
       clear hKc
       go_wp2
       go_loopw [13] (fun pv wr => ∃ (p : Nat) (cs' : Nat → List Int), p ≤ R ∧ pv = .int .i64 (p : Int) ∧ Hid ((cs' i).length = R) ∧ Hid (∀ j, i ≤ j → (cs' j).length ≤ 512) ∧ Hid (LL wr Ba N (.slice (some ⟨b1, 0, none⟩) N hac) vs vs cs') ∧ Hid (Below wo.heap.size wo wr)) (fun pv wr => R - (intOf pv).toNat)
       case atStart => exact ⟨0, cs, Nat.zero_le _, rfl, HR0, HFa, HL, HB2⟩
       case round =>
        clear HL HB2 HFa HR0
        obtain ⟨p, cs', hp, rfl, HR0, HFa, HL, HB2⟩ := hrel
        obtain ⟨b3, c3, e3, _, y1, fz1⟩ := HL.out.hAt i HIL.out
        injection e3 with e31 _ e33
        injection e31 with e31
        injection e31 with e31
        subst e31 e33
        rw [HF1.out] at y1
        by_cases hpr : p < R
        ·have qp1 : (p : Int) < (R : Int) := by omega
         have qp0 : (0 : Int) ≤ (p : Int) := by omega
         have hp41 : p + 1 ≤ 512 := by omega
         obtain ⟨b4, c4, e4, hB4, y2, fz2⟩ := HL.out.rAt i p (by rw [HR0.out]; exact hpr)
         have HL9 := TW.hide (HL.out.setR i p (-1 - (i : Int)) e4)
         rw [HF1.out, HR0.out] at e4
         injection e4 with e41 _ e43
         subst e41 e43
         have HB9 := TW.hide (HB2.out.setCell (p := ⟨b4, p, none⟩) (Nat.le_trans HBa.out hB4) (.int .i64 (-1 - (i : Int))))
         have HPr := TW.hide hpr
         have kn := HKn.out
         clear hpr hp HL HB2
         go_wp2
         go_roundw
         case rel =>
          refine ⟨p + 1, _, HPr.out, by go_num, ?_, ?_, HL9, HB9⟩
          ·show _ = _
           unfold put
           rw [if_pos rfl, List.length_set]
           exact HR0.out
          ·show ∀ j, i ≤ j → _
           intro j hj
           unfold put
           split
           ·rw [List.length_set]; exact HFa.out i (Nat.le_refl _)
           ·exact HFa.out j hj
         case measure => simp [intOf]; have := HPr.out; omega
        ·obtain rfl : R = p := by omega
         have qk : ¬ (R : Int) < (R : Int) := by omega
         clear hpr hp
         go_wp2
         refine HKc.out _ _ ?_
         clear HKc y1 fz1
         obtain ⟨b3, c3, e3, hB3, y1, fz1⟩ := HL.out.hAt i HIL.out
         injection e3 with e31 _ e33
         injection e31 with e31
         injection e31 with e31
         subst e31 e33
         rw [HF1.out] at y1
         obtain ⟨wg, rfl⟩ : ∃ x, x = wr := ⟨_, rfl⟩
         have hAl : Below wg.heap.size wg (wg.alloc (.cells #[.int .i64 1, .int .i64 2, .int .i64 3] 3)) := (Below.refl _ _).alloc (Nat.le_refl _) _
         have HLa1 := TW.hide (HL.out.below hAl)
         have HOa1 : Hid ((wg.alloc (.cells #[.int .i64 1, .int .i64 2, .int .i64 3] 3)).ownsRow Ba 3 1 (.slice a1 R k1) R ((cs' i).map (Value.int .i64))) := by
          have h9 : (wg.alloc (.cells #[.int .i64 1, .int .i64 2, .int .i64 3] 3)).ownsRow Ba 3 1 (vs i) (cs' i).length ((cs' i).map (Value.int .i64)) := HLa1.out.fam.own (some i)
          rw [HF1.out, HR0.out] at h9
          exact h9
         have HSa1 : Hid (Ba ≤ (wg.alloc (.cells #[.int .i64 1, .int .i64 2, .int .i64 3] 3)).heap.size) := Nat.le_trans hB3 (Nat.le_of_lt (HLa1.out.fam.lt none b1 rfl))
         have HBa1 : Hid (Below wo.heap.size wo (wg.alloc (.cells #[.int .i64 1, .int .i64 2, .int .i64 3] 3))) := HB2.out.trans (hAl.mono HB2.out.size)
         have hn3 : R + 3 ≤ 1000 := by omega
         have HF5 : Hid (∀ v5 w5, w5.ownsRow Ba 3 1 v5 (R + 3) ((cs' i).map (Value.int .i64) ++ [.int .i64 1, .int .i64 2, .int .i64 3]) → (wg.alloc (.cells #[.int .i64 1, .int .i64 2, .int .i64 3] 3)).grownBy w5 (Value.slice a1 R k1).ownBlock → (v5.ownBlock = (Value.slice a1 R k1).ownBlock ∨ v5.ownBlock = some (wg.alloc (.cells #[.int .i64 1, .int .i64 2, .int .i64 3] 3)).heap.size) → (∃ va_ vc_, v5 = .slice va_ (R + 3) vc_) ∧ LL w5 Ba N (.slice (some ⟨b1, 0, none⟩) N hac) vs (vup vs i v5) (put cs' i (cs' i ++ [1, 2, 3])) ∧ Below wo.heap.size wo w5) := fun v5 w5 h1 h2 h3 =>
          ⟨own_openE h1, HLa1.out.appR i [1, 2, 3] v5 (by rw [HR0.out]; exact h1) (by rw [HF1.out]; exact h2) (by rw [HF1.out]; exact h3), HBa1.out.grown h2 HBa1.out.size (fun q hq => Nat.le_trans HBa.out (own_blkI HOa1.out q hq))⟩
         clear hAl HLa1 HL HB2
         refine wp_seq_k fun K1 hK1 => ?_
         have HK1 := TW.hide hK1
         clear hK1
         go_wp2_with (at_builtin; refine wpList_append_own_at _ rfl _ _ 23 rfl Ba 3 i3 (.int .i64 0) 1 8 Try.underlying23 hi3 hz30 hz31 hz32 rfl (by decide) _ R ((cs' i).map (Value.int .i64)) rfl HOa1.out ⟨wg.heap.size, 0, none⟩ 3 3 [.int .i64 1, .int .i64 2, .int .i64 3] rfl rfl (cells_new9 _ [.int .i64 1, .int .i64 2, .int .i64 3] _) (by simp [Value.oneCell']) (by unfold maxLen; omega) (by omega) HSa1.out ?_; (intro v5 w5 h51 h52 _ h53); obtain ⟨⟨va_, vc_, rfl⟩, hm5, hb5⟩ := HF5.out v5 w5 h51 h52 h53; have HL5 := TW.hide hm5; have HB5 := TW.hide hb5; clear h51 h52 h53 hm5 hb5 HF5)
         refine HK1.out _ _ ?_
         clear HK1 HOa1 HSa1 HBa1 y1 fz1
         have HC5 : Hid ((put cs' i (cs' i ++ [1, 2, 3]) i).length = R + 3) := by
          show _ = _
          unfold put
          rw [if_pos rfl, List.length_append, HR0.out]
          rfl
         have HV5 : Hid (vup vs i (.slice va_ (R + 3) vc_) i = .slice va_ (R + 3) vc_) := vup_same _ _ _
         have HFb : Hid (∀ j, i + 1 ≤ j → (put cs' i (cs' i ++ [1, 2, 3]) j).length ≤ 512) := fun j hj => by
          unfold put
          rw [if_neg (by omega)]
          exact HFa.out j (by omega)
         generalize hcs : put cs' i (cs' i ++ [1, 2, 3]) = cs5 at *
         generalize hvs : vup vs i (.slice va_ (R + 3) vc_) = vs5 at *
         clear hcs HFa HR0
         have HVv : Hid (∀ j, j ≠ i → vs5 j = vs j) := fun j hj => by rw [← hvs]; unfold vup; rw [if_neg hj]
         clear hvs
         have hAl : Below w5.heap.size w5 (w5.alloc (.cells #[.int .i64 (i : Int)] 3)) := (Below.refl _ _).alloc (Nat.le_refl _) _
         have HLa1 := TW.hide (HL5.out.below hAl)
         have HOa1 : Hid ((w5.alloc (.cells #[.int .i64 (i : Int)] 3)).ownsRow Ba 3 1 (.slice va_ (R + 3) vc_) (R + 3) ((cs5 i).map (Value.int .i64))) := by
          have h9 : (w5.alloc (.cells #[.int .i64 (i : Int)] 3)).ownsRow Ba 3 1 (vs5 i) (cs5 i).length ((cs5 i).map (Value.int .i64)) := HLa1.out.fam.own (some i)
          rw [HV5.out, HC5.out] at h9
          exact h9
         have HSa1 : Hid (Ba ≤ (w5.alloc (.cells #[.int .i64 (i : Int)] 3)).heap.size) := Nat.le_trans hB3 (Nat.le_of_lt (HLa1.out.fam.lt none b1 rfl))
         have HBa1 : Hid (Below wo.heap.size wo (w5.alloc (.cells #[.int .i64 (i : Int)] 3))) := HB5.out.trans (hAl.mono HB5.out.size)
         have HF6 : Hid (∀ v6 w6, w6.ownsRow Ba 3 1 v6 (R + 3 + 1) ((cs5 i).map (Value.int .i64) ++ [.int .i64 (i : Int)]) → (w5.alloc (.cells #[.int .i64 (i : Int)] 3)).grownBy w6 (Value.slice va_ (R + 3) vc_).ownBlock → (v6.ownBlock = (Value.slice va_ (R + 3) vc_).ownBlock ∨ v6.ownBlock = some (w5.alloc (.cells #[.int .i64 (i : Int)] 3)).heap.size) → (∃ va_ vc_, v6 = .slice va_ (R + 3 + 1) vc_) ∧ LL w6 Ba N (.slice (some ⟨b1, 0, none⟩) N hac) vs (vup vs5 i v6) (put cs5 i (cs5 i ++ [(i : Int)])) ∧ Below wo.heap.size wo w6) := fun v6 w6 h1 h2 h3 =>
          ⟨own_openE h1, HLa1.out.appR i [(i : Int)] v6 (by rw [HC5.out]; exact h1) (by rw [HV5.out]; exact h2) (by rw [HV5.out]; exact h3), HBa1.out.grown h2 HBa1.out.size (fun q hq => Nat.le_trans HBa.out (own_blkI HOa1.out q hq))⟩
         clear hAl HLa1 HL5 HB5
         refine wp_seq_k fun K1 hK1 => ?_
         have HK1 := TW.hide hK1
         clear hK1
         go_wp2_with (at_builtin; refine wpList_append_own_at _ rfl _ _ 23 rfl Ba 3 i3 (.int .i64 0) 1 8 Try.underlying23 hi3 hz30 hz31 hz32 rfl (by decide) _ (R + 3) ((cs5 i).map (Value.int .i64)) rfl HOa1.out ⟨w5.heap.size, 0, none⟩ 1 1 [.int .i64 (i : Int)] rfl rfl (cell_one_new _ _ _) (by simp [Value.oneCell']) (by unfold maxLen; omega) (by omega) HSa1.out ?_; (intro v6 w6 h51 h52 _ h53); obtain ⟨⟨vb_, vd_, rfl⟩, hm5, hb5⟩ := HF6.out v6 w6 h51 h52 h53; have HL6 := TW.hide hm5; have HB6 := TW.hide hb5; clear h51 h52 h53 hm5 hb5 HF6)
         refine HK1.out _ _ ?_
         clear HK1 HOa1 HSa1 HBa1
         obtain ⟨b3, c3, e3, hB3, y1, fz1⟩ := HL6.out.hAt i HIL.out
         injection e3 with e31 _ e33
         injection e31 with e31
         injection e31 with e31
         subst e31 e33
         have HL7 := TW.hide (HL6.out.setH i (.slice vb_ (R + 3 + 1) vd_) rfl)
         have HB7 := TW.hide (HB6.out.setCell (p := ⟨b1, i, none⟩) (Nat.le_trans HBa.out hB3) (.slice vb_ (R + 3 + 1) vd_))
         have HVe : Hid (vup vs i (.slice vb_ (R + 3 + 1) vd_) = vup vs5 i (.slice vb_ (R + 3 + 1) vd_)) := by
          show _ = _
          funext j
          unfold vup
          by_cases e : j = i
          ·rw [if_pos e, if_pos e]
          ·rw [if_neg e, if_neg e, HVv.out j e]
         rw [HVe.out] at HL7
         clear HVe HVv HV5 HL6 HB6 HC5
         have HFc : Hid (∀ j, i + 1 ≤ j → (put cs5 i (cs5 i ++ [(i : Int)]) j).length ≤ 512) := fun j hj => by
          unfold put
          rw [if_neg (by omega)]
          exact HFb.out j hj
         go_wp2
         refine HKb.out _ _ ?_
         go_wp2
         go_roundw
         case rel => exact ⟨i + 1, _, _, HIL.out, by go_num, HFc, HL7, HB7⟩
         case measure => simp [intOf]; have := HIL.out; omega
      ·obtain rfl : N = i := by omega
       have qk : ¬ (N : Int) < (N : Int) := by omega
       have hX : Below wo.heap.size wo wr := HB2.out
       have HEn := TW.hide (HEc.out.below hX)
       have NSn := TW.hide (blk_keep NSo.out hX)
       have HBn : Hid (Below w.heap.size w wr) := HBo.out.trans (hX.mono HBo.out.size)
       clear hlt hi HL HB2 hX
       go_wp2
       refine HKt.out _ _ ?_
       go_wp2
       go_roundw
       case rel => exact ⟨t + 1, by omega, by go_num, HEn, NSn, HBn⟩
       case measure => simp [intOf]; omega
  ·obtain rfl : t = 2 := by omega
   have qt : ¬ ((2 : Nat) : Int) < 2 := by omega
   have HKp : Hid (Calls Try.prog 10 #[.slice ca l.length cc, .slice la l.length lc] wr fun e w' => e = .returned (.bool true) ∧ Below wr.heap.size wr w') := lkept ca la cc lc l wr HE.out (HEl.out.below HB.out)
   clear hlt ht
   go_wp2
   refine HKz.out _ _ ?_
   clear HKz
   go_wp2_with fail
   refine HKp.out.mono ?_
   rintro e9 W9 ⟨rfl, hb⟩
   have HBz : Hid (Below w.heap.size w W9) := HB.out.trans (hb.mono HB.out.size)
   clear hb
   go_wp2
   go_ret
   exact ⟨rfl, HBz.out⟩
end LW
end Go.Proofs.Ytlahcdbgggdldaa
