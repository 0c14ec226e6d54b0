/-
  What Valid of the document gives.
-/
import Derived.Test.YtnfimdcpocooiaaSysR
namespace Go.Proofs.Ytnfimdcpocooiaa
open Go.RowKit
set_option linter.unusedVariables false
set_option linter.unusedSimpArgs false
namespace LW
open Mc
theorem keepC {V W : World} (hb : Below V.heap.size V W) {p o : Nat} {u : Value} (h : V.cell? ⟨p, o, none⟩ = some u) : W.cell? ⟨p, o, none⟩ = some u := by
  rw [hb.cell (lt_of_cell h)]; exact h
set_option maxRecDepth 100000 in
set_option maxHeartbeats 4000000 in
theorem rvalid13 (s : Syst) (pa : Option Addr) (pc : Nat) (ra : Option Addr) (rc n r : Nat) (w : World) (hS : SM w s pa ra) (hn : s.progs.length = n) (hr : s.rooms.length = r) (hn1 : n ≤ 9223372036854775807) (hr1 : r ≤ 9223372036854775807) (hl : ∀ p, (s.progs.getD p []).length ≤ 9223372036854775807) :
    Calls Try.prog 39 #[.agg #[.slice pa n pc, .slice ra r rc, .int .i64 s.groups, .int .i64 s.locks, .int .i64 s.cells]] w (RiP (Ok s) w) := by
  have n0 := heap_alloc_new w (.cells #[.slice pa n pc, .slice ra r rc, .int .i64 s.groups, .int .i64 s.locks, .int .i64 s.cells] 25)
  have hb0 := (Below.refl w.heap.size w).alloc (Nat.le_refl _) (.cells #[.slice pa n pc, .slice ra r rc, .int .i64 s.groups, .int .i64 s.locks, .int .i64 s.cells] 25)
  have XS := TW.hide n0
  have NB := TW.hide hb0
  have HM := TW.hide (hS.below hb0)
  have HM0 := TW.hide hS
  obtain ⟨Z, hZ⟩ : ∃ Z, Z = Ok s := ⟨_, rfl⟩
  have HZ := TW.hide hZ
  rw [← hZ]
  have HN := TW.hide hn
  have HRn := TW.hide hr
  have HL := TW.hide hl
  clear n0 hb0 hS hZ hn hr hl
  go_enter Try.func39, Try.ntmps39
  refine wp_seq_k fun K hK => ?_
  have HK := TW.hide hK
  clear hK
  go_wp2_with fail
  refine HK.out _ _ ?_
  clear HK K
  generalize w.alloc _ = X at *
  obtain ⟨y0, y1, y2, y3, y4⟩ := cellsY5 XS.out
  by_cases q1 : n < 1
  · have k1 : (n : Int) < 1 := by omega
    have HNo : Hid (¬ Z) := by
      intro hz
      rw [HZ.out] at hz
      have := hz.p1; have := HN.out; omega
    go_wp2
    go_ret
    unfold RiP
    exact ⟨false, rfl, ⟨fun h => (by cases h), fun h => absurd h HNo.out⟩, NB.out⟩
  have k1 : ¬ (n : Int) < 1 := by omega
  by_cases q2 : 64 < n
  · have k2 : (64 : Int) < (n : Int) := by omega
    have HNo : Hid (¬ Z) := by
      intro hz
      rw [HZ.out] at hz
      have := hz.p2; have := HN.out; omega
    go_wp2
    go_ret
    unfold RiP
    exact ⟨false, rfl, ⟨fun h => (by cases h), fun h => absurd h HNo.out⟩, NB.out⟩
  have k2 : ¬ (64 : Int) < (n : Int) := by omega
  by_cases q3 : 64 < r
  · have k3 : (64 : Int) < (r : Int) := by omega
    have HNo : Hid (¬ Z) := by
      intro hz
      rw [HZ.out] at hz
      have := hz.r1; have := HRn.out; omega
    go_wp2
    go_ret
    unfold RiP
    exact ⟨false, rfl, ⟨fun h => (by cases h), fun h => absurd h HNo.out⟩, NB.out⟩
  have k3 : ¬ (64 : Int) < (r : Int) := by omega
  refine wp_seq_k fun K hK => ?_
  have HK := TW.hide hK
  clear hK
  go_wp2
  refine HK.out _ _ ?_
  clear HK K
  clear k1 k2 k3
  by_cases m0 : s.groups < 0
  · have HNo : Hid (¬ Z) := by
      intro hz
      rw [HZ.out] at hz
      have := hz.g1; omega
    go_wp2
    go_ret
    unfold RiP
    exact ⟨false, rfl, ⟨fun h => (by cases h), fun h => absurd h HNo.out⟩, NB.out⟩
  by_cases m1 : 64 < s.groups
  · have HNo : Hid (¬ Z) := by
      intro hz
      rw [HZ.out] at hz
      have := hz.g1; omega
    go_wp2
    go_ret
    unfold RiP
    exact ⟨false, rfl, ⟨fun h => (by cases h), fun h => absurd h HNo.out⟩, NB.out⟩
  by_cases m2 : s.locks < 0
  · have HNo : Hid (¬ Z) := by
      intro hz
      rw [HZ.out] at hz
      have := hz.l1; omega
    go_wp2
    go_ret
    unfold RiP
    exact ⟨false, rfl, ⟨fun h => (by cases h), fun h => absurd h HNo.out⟩, NB.out⟩
  by_cases m3 : 64 < s.locks
  · have HNo : Hid (¬ Z) := by
      intro hz
      rw [HZ.out] at hz
      have := hz.l1; omega
    go_wp2
    go_ret
    unfold RiP
    exact ⟨false, rfl, ⟨fun h => (by cases h), fun h => absurd h HNo.out⟩, NB.out⟩
  by_cases m4 : s.cells < 0
  · have HNo : Hid (¬ Z) := by
      intro hz
      rw [HZ.out] at hz
      have := hz.c1; omega
    go_wp2
    go_ret
    unfold RiP
    exact ⟨false, rfl, ⟨fun h => (by cases h), fun h => absurd h HNo.out⟩, NB.out⟩
  by_cases m5 : 64 < s.cells
  · have HNo : Hid (¬ Z) := by
      intro hz
      rw [HZ.out] at hz
      have := hz.c1; omega
    go_wp2
    go_ret
    unfold RiP
    exact ⟨false, rfl, ⟨fun h => (by cases h), fun h => absurd h HNo.out⟩, NB.out⟩
  refine wp_seq_k fun K hK => ?_
  have HK := TW.hide hK
  clear hK
  go_wp2
  refine HK.out _ _ ?_
  clear HK K
  refine wp_seq_k fun K hK => ?_
  have HK := TW.hide hK
  clear hK
  go_wp2
  go_loopw [3] (fun i wr => ∃ k : Nat, k ≤ r ∧ i = .int .i64 (k : Int) ∧ Hid (∀ q, q < k → 1 ≤ s.rooms.getD q 0 ∧ s.rooms.getD q 0 ≤ 1024) ∧ wr = X) (fun i wr => r - (intOf i).toNat)
  case atStart => exact ⟨0, Nat.zero_le _, rfl, TW.hide (fun q hq => by omega), rfl⟩
  case round =>
    obtain ⟨k, hk, rfl, HQ, hwX⟩ := hrel
    by_cases hlt : k < r
    · have hk1 : (k : Int) < (r : Int) := by omega
      have hk0 : (0 : Int) ≤ (k : Int) := by omega
      obtain ⟨b, off, rfl, hrc⟩ : ∃ b off, ra = some ⟨b, off, none⟩ ∧ X.cell? ⟨b, off + k, none⟩ = some (.int .i64 (s.rooms.getD k 0)) := by
        rcases HM.out.rm with h | ⟨b, off, e, hc⟩
        · exfalso; have := HRn.out; rw [h] at this; simp at this; omega
        · exact ⟨b, off, e, hc k (by rw [HRn.out]; exact hlt)⟩
      have HRm : Hid (Z → 1 ≤ s.rooms.getD k 0 ∧ s.rooms.getD k 0 ≤ 1024) := fun hz => by
        rw [HZ.out] at hz
        exact hz.rm k (by rw [HRn.out]; exact hlt)
      have HKK := TW.hide hlt
      subst hwX
      generalize hrv : s.rooms.getD k 0 = v at *
      have HRV := TW.hide hrv
      clear hlt hrv
      by_cases v1 : v < 1
      · have HNo : Hid (¬ Z) := fun hz => by have := HRm.out hz; omega
        go_wp2
        go_ret
        unfold RiP
        exact ⟨false, rfl, ⟨fun h => (by cases h), fun h => absurd h HNo.out⟩, NB.out⟩
      · by_cases v2 : 1024 < v
        · have HNo : Hid (¬ Z) := fun hz => by have := HRm.out hz; omega
          go_wp2
          go_ret
          unfold RiP
          exact ⟨false, rfl, ⟨fun h => (by cases h), fun h => absurd h HNo.out⟩, NB.out⟩
        · go_wp2
          go_roundw
          case rel =>
            refine ⟨k + 1, HKK.out, by go_num, TW.hide (fun q hq => ?_), by trivial⟩
            rcases Nat.lt_or_ge q k with h | h
            · exact HQ.out q h
            · obtain rfl : q = k := by omega
              rw [HRV.out]; omega
          case measure => simp [intOf]; have := HKK.out; omega
    · have hkr : r = k := by omega
      subst hkr
      have hXw : X = wr := hwX.symm
      clear hwX
      subst hXw
      have HQR := TW.hide HQ.out
      clear HQ
      go_wp2
      refine HK.out _ _ ?_
      clear HK
      refine wp_seq_k fun K hK => ?_
      have HK := TW.hide hK
      clear hK
      go_wp2
      go_loopw [4, 5] (fun p i w2 => ∃ p' : Nat, p' ≤ n ∧ p = .int .i64 (p' : Int) ∧ Hid (Below X.heap.size X w2) ∧ Hid (∀ q, q < p' → (s.progs.getD q []).length ≤ 256 ∧ ∀ j, j < (s.progs.getD q []).length → rightM s q ((s.progs.getD q []).getD j i0))) (fun p i w2 => n - (intOf p).toNat)
      case atStart => exact ⟨0, Nat.zero_le _, rfl, TW.hide (Below.refl _ _), TW.hide (fun q hq => by omega)⟩
      case round =>
        obtain ⟨p, hp, rfl, HX1, HQ0⟩ := hrel
        have NBp : Hid (Below w.heap.size w wr) := NB.out.trans (HX1.out.mono NB.out.size)
        by_cases hlp : p < n
        · have hp1 : (p : Int) < (n : Int) := by omega
          have hp0 : (0 : Int) ≤ (p : Int) := by omega
          obtain ⟨b, off, rfl, A, KA, hpc, hir⟩ : ∃ b off, pa = some ⟨b, off, none⟩ ∧ ∃ A KA, X.cell? ⟨b, off + p, none⟩ = some (.slice A (s.progs.getD p []).length KA) ∧ IR X A (s.progs.getD p []) := by
            rcases HM.out.pr with h | ⟨b, off, e, hc⟩
            · exfalso; have := HN.out; rw [h] at this; simp at this; omega
            · obtain ⟨A, K, h1, h2⟩ := hc p (by rw [HN.out]; exact hlp)
              exact ⟨b, off, e, A, K, h1, h2⟩
          have HRt0 : Hid ((s.progs.getD p []).length ≤ 256 → ∀ (j : Nat) (W : World), Below w.heap.size w W → Calls Try.prog 62 #[.agg #[.slice (some ⟨b, off, none⟩) n pc, .slice ra r rc, .int .i64 s.groups, .int .i64 s.locks, .int .i64 s.cells], .int .i64 p, .agg #[.int .i64 ((s.progs.getD p []).getD j i0).op, .int .i64 ((s.progs.getD p []).getD j i0).a, .int .i64 ((s.progs.getD p []).getD j i0).b, .int .i64 ((s.progs.getD p []).getD j i0).c]] W (RiP (rightM s p ((s.progs.getD p []).getD j i0)) W))   := fun h256 j W hW => by
            have := rright s b off pc ra rc p n ((s.progs.getD p []).getD j i0).op ((s.progs.getD p []).getD j i0).a ((s.progs.getD p []).getD j i0).b ((s.progs.getD p []).getD j i0).c W (HM0.out.below hW) HN.out hlp (by omega)
            rw [HRn.out] at this
            exact this
          have HIn : Hid (∀ j, j < (s.progs.getD p []).length → ∃ b2 off2, A = some ⟨b2, off2, none⟩ ∧ X.cell? ⟨b2, off2 + j * 4, none⟩ = some (.int .i64 ((s.progs.getD p []).getD j i0).op) ∧ X.cell? ⟨b2, off2 + j * 4 + 1, none⟩ = some (.int .i64 ((s.progs.getD p []).getD j i0).a) ∧ X.cell? ⟨b2, off2 + j * 4 + 2, none⟩ = some (.int .i64 ((s.progs.getD p []).getD j i0).b) ∧ X.cell? ⟨b2, off2 + j * 4 + 3, none⟩ = some (.int .i64 ((s.progs.getD p []).getD j i0).c)) := by
            intro j hj
            rcases hir with h | ⟨b2, off2, e, hc⟩
            · rw [h] at hj; simp at hj
            · exact ⟨b2, off2, e, hc j hj⟩
          obtain ⟨pl, hpl⟩ : ∃ pl, (s.progs.getD p []).length = pl := ⟨_, rfl⟩
          have HPL := TW.hide hpl
          rw [hpl] at hpc HIn
          have HLP := TW.hide hlp
          clear hir hpl hlp hp
          have y0 := (cellsY5 (blk_keep XS.out HX1.out)).1
          have z0 := keepC HX1.out hpc
          by_cases q9 : 256 < pl
          · have k9 : (256 : Int) < (pl : Int) := by omega
            have HNo : Hid (¬ Z) := by
              intro hz
              rw [HZ.out] at hz
              have := hz.pl p (by rw [HN.out]; exact HLP.out); have := HPL.out; omega
            go_wp2
            go_ret
            unfold RiP
            exact ⟨false, rfl, ⟨fun h => (by cases h), fun h => absurd h HNo.out⟩, NBp.out⟩
          have k9 : ¬ (256 : Int) < (pl : Int) := by omega
          have HRt := TW.hide (HRt0.out (by rw [HPL.out]; omega))
          clear HRt0
          go_wp2
          clear y0 z0
          go_loopw [5] (fun i wr => ∃ j : Nat, j ≤ pl ∧ i = .int .i64 (j : Int) ∧ Hid (Below X.heap.size X wr) ∧ Hid (∀ q, q < j → rightM s p ((s.progs.getD p []).getD q i0))) (fun i wr => pl - (intOf i).toNat)
          case atStart => exact ⟨0, Nat.zero_le _, rfl, HX1, TW.hide (fun q hq => by omega)⟩
          case round =>
            obtain ⟨j, hj, rfl, HX0, HQ⟩ := hrel
            have NBr : Hid (Below w.heap.size w wr) := NB.out.trans (HX0.out.mono NB.out.size)
            by_cases hlt : j < pl
            · have hj1 : (j : Int) < (pl : Int) := by omega
              have hj0 : (0 : Int) ≤ (j : Int) := by omega
              obtain ⟨b2, off2, rfl, x0, x1, x2, x3⟩ := HIn.out j hlt
              have HRi := TW.hide (fun W hW => HRt.out j W hW)
              have HZr : Hid (Z → rightM s p ((s.progs.getD p []).getD j i0)) := fun hz => by
                rw [HZ.out] at hz
                exact hz.rt p (by rw [HN.out]; exact HLP.out) j (by rw [HPL.out]; exact hlt)
              have HLJ := TW.hide hlt
              have y0 := (cellsY5 (blk_keep XS.out HX0.out)).1
              have z0 := keepC HX0.out hpc
              clear hlt
              generalize ((s.progs.getD p []).getD j i0).op = op at *
              generalize ((s.progs.getD p []).getD j i0).a = a0 at *
              generalize ((s.progs.getD p []).getD j i0).b = a1 at *
              generalize ((s.progs.getD p []).getD j i0).c = a2 at *
              go_wp2
              clear y0 z0
              refine wp_region_noPanic ?_
              refine RG.wp_region_L (fun Z => True) (fun Z => Below X.heap.size X Z) [] (by kernel_rfl) ?_
              refine RG.wpL_any fun Yg hY => ?_
              have HTg : Hid (Below X.heap.size X Yg) := by rw [hY]; exact below_drewN HX0.out 1
              clear hY
              refine RG.wpL_take (fuel := 2) (a' := ?Ag) [0, 1, 2, 3, 4, 5, 6, 7, 8, 9] (by kernel_rfl) (by kernel_rfl) (fun _ _ _ _ _ h => h) HTg.out (fun _ => trivial) ?rg ?_
              case rg =>
                refine RG.RunsIf.weak (v := .agg #[.slice (some ⟨b, off, none⟩) n pc, .slice ra r rc, .int .i64 s.groups, .int .i64 s.locks, .int .i64 s.cells]) (by rfl) (by rfl) (fun Z hT => exec_load_row' 25 _ (by rfl) w.heap.size (by rfl) 25 #[.slice (some ⟨b, off, none⟩) n pc, .slice ra r rc, .int .i64 s.groups, .int .i64 s.locks, .int .i64 s.cells] (0, 0) _ (blk_keep XS.out hT) Try.underlying25 rfl (by kernel_rfl)) ?_
                simp only [Act.put, List.setIfInBounds_toArray, List.set_cons_zero, List.set_cons_succ, List.getElem_toArray, List.getElem_cons_zero, List.getElem_cons_succ]
                refine RG.RunsIf.weak (v := ?_) (by rfl) (by rfl) (fun Z hT => ?_) ?_
                rotate_left
                · go_simp
                  rfl
                simp only [Act.put, List.setIfInBounds_toArray, List.set_cons_zero, List.set_cons_succ, List.getElem_toArray, List.getElem_cons_zero, List.getElem_cons_succ]
                refine RG.RunsIf.weak (v := ?_) (by rfl) (by rfl) (fun Z hT => ?_) ?_
                rotate_left
                · go_simp
                  rfl
                simp only [Act.put, List.setIfInBounds_toArray, List.set_cons_zero, List.set_cons_succ, List.getElem_toArray, List.getElem_cons_zero, List.getElem_cons_succ]
                refine RG.RunsIf.weak (v := .slice (some ⟨b, off, none⟩) n pc) (by rfl) (by rfl) (fun Z hT => ?_) ?_
                · have y0 := (cellsY5 (blk_keep XS.out hT)).1
                  go_simp
                simp only [Act.put, List.setIfInBounds_toArray, List.set_cons_zero, List.set_cons_succ, List.getElem_toArray, List.getElem_cons_zero, List.getElem_cons_succ]
                refine RG.RunsIf.weak (v := ?_) (by rfl) (by rfl) (fun Z hT => ?_) ?_
                rotate_left
                · go_simp
                  rfl
                simp only [Act.put, List.setIfInBounds_toArray, List.set_cons_zero, List.set_cons_succ, List.getElem_toArray, List.getElem_cons_zero, List.getElem_cons_succ]
                refine RG.RunsIf.weak (v := ?_) (by rfl) (by rfl) (fun Z hT => ?_) ?_
                rotate_left
                · go_simp
                  rfl
                simp only [Act.put, List.setIfInBounds_toArray, List.set_cons_zero, List.set_cons_succ, List.getElem_toArray, List.getElem_cons_zero, List.getElem_cons_succ]
                refine RG.RunsIf.weak (v := .slice (some ⟨b2, off2, none⟩) pl KA) (by rfl) (by rfl) (fun Z hT => ?_) ?_
                · have y0 := keepC hT hpc
                  go_simp
                simp only [Act.put, List.setIfInBounds_toArray, List.set_cons_zero, List.set_cons_succ, List.getElem_toArray, List.getElem_cons_zero, List.getElem_cons_succ]
                refine RG.RunsIf.weak (v := ?_) (by rfl) (by rfl) (fun Z hT => ?_) ?_
                rotate_left
                · go_simp
                  rfl
                simp only [Act.put, List.setIfInBounds_toArray, List.set_cons_zero, List.set_cons_succ, List.getElem_toArray, List.getElem_cons_zero, List.getElem_cons_succ]
                refine RG.RunsIf.weak (v := ?_) (by rfl) (by rfl) (fun Z hT => ?_) ?_
                rotate_left
                · go_simp
                  rfl
                simp only [Act.put, List.setIfInBounds_toArray, List.set_cons_zero, List.set_cons_succ, List.getElem_toArray, List.getElem_cons_zero, List.getElem_cons_succ]
                refine RG.RunsIf.weak (v := .agg #[.int .i64 op, .int .i64 a0, .int .i64 a1, .int .i64 a2]) (by rfl) (by rfl) (fun Z hT => ?_) ?_
                · have z0 := keepC hT x0; have z1 := keepC hT x1; have z2 := keepC hT x2; have z3 := keepC hT x3
                  go_simp
                simp only [Act.put, List.setIfInBounds_toArray, List.set_cons_zero, List.set_cons_succ, List.getElem_toArray, List.getElem_cons_zero, List.getElem_cons_succ]
                exact RG.RunsIf.nil
              refine RG.wpL_step (i := 10) (by kernel_rfl) (by rfl) (by rfl) (fun KX hK => ?_)
              have HK := TW.hide hK
              clear hK
              go_simp
              refine (HRi.out _ (NB.out.trans (HTg.out.mono NB.out.size))).mono ?_
              rintro ex1 W1 ⟨xb, rfl, hxb, hb⟩
              have HT1 : Hid (Below X.heap.size X W1) := HTg.out.trans (hb.mono HTg.out.size)
              have NB1 : Hid (Below w.heap.size w W1) := NB.out.trans (HT1.out.mono NB.out.size)
              have HXB := TW.hide hxb
              refine HK.out _ _ HT1.out (fun _ => trivial) ?_
              clear HK KX hb hxb
              try simp only [Act.put, List.setIfInBounds_toArray, List.set_cons_zero, List.set_cons_succ, List.getElem_toArray, List.getElem_cons_zero, List.getElem_cons_succ]
              refine RG.wpL_take (fuel := 0) (a' := ?Agx) [11] (by kernel_rfl) (by kernel_rfl) (fun _ _ _ _ _ h => h) HT1.out (fun _ => trivial) ?rgx ?_
              case rgx =>
                refine RG.RunsIf.weak (v := ?_) (by rfl) (by rfl) (fun Z hT => ?_) ?_
                rotate_left
                · go_simp
                  rfl
                simp only [Act.put, List.setIfInBounds_toArray, List.set_cons_zero, List.set_cons_succ, List.getElem_toArray, List.getElem_cons_zero, List.getElem_cons_succ]
                exact RG.RunsIf.nil
              refine RG.wpL_done (by kernel_rfl) ?_ _
              refine NoPanic.normal ?_

              cases xb with
              | true =>
                go_wp2
                go_roundw
                case rel =>
                  refine ⟨j + 1, HLJ.out, by go_num, HT1, TW.hide (fun q hq => ?_)⟩
                  rcases Nat.lt_or_ge q j with h | h
                  · exact HQ.out q h
                  · obtain rfl : q = j := by omega
                    exact HXB.out.1 (by trivial)
                case measure => simp [intOf]; have := HLJ.out; omega
              | false =>
                have HNo : Hid (¬ Z) := fun hz => by
                  have := HXB.out.2 (HZr.out hz)
                  simp at this
                go_wp2
                go_ret
                unfold RiP
                exact ⟨false, rfl, ⟨fun h => (by cases h), fun h => absurd h HNo.out⟩, NB1.out⟩
            · have hjp : pl = j := by omega
              subst hjp
              have y0 := (cellsY5 (blk_keep XS.out HX0.out)).1
              have z0 := keepC HX0.out hpc
              go_wp2
              refine ⟨⟨p + 1, HLP.out, by go_num, HX0, TW.hide (fun q hq => ?_)⟩, by simp [intOf]; have := HLP.out; omega⟩
              rcases Nat.lt_or_ge q p with h | h
              · exact HQ0.out q h
              · obtain rfl : q = p := by omega
                exact ⟨by rw [HPL.out]; omega, fun x hx => HQ.out x (by rw [HPL.out] at hx; exact hx)⟩

        · have hpn : n = p := by omega
          subst hpn
          have y0 := (cellsY5 (blk_keep XS.out HX1.out)).1
          have HYes : Hid Z := by
            show Z
            rw [HZ.out]
            have e1 := HN.out
            have e2 := HRn.out
            exact ⟨by omega, by omega, by omega, by omega, by omega, by omega, fun i hi => HQR.out i (by omega), fun q hq => (HQ0.out q (by omega)).1, fun q hq => (HQ0.out q (by omega)).2⟩
          go_wp2
          refine HK.out _ _ ?_
          go_wp2
          go_ret
          unfold RiP
          exact ⟨true, rfl, ⟨fun _ => HYes.out, fun _ => rfl⟩, NBp.out⟩

end LW
end Go.Proofs.Ytnfimdcpocooiaa
