/-
  What Unpack of the document gives, where it tells a path.
-/
import Derived.Test.YtcpegipojkbcoaaRUnp5
import Derived.Test.YtcpegipojkbcoaaOrder
namespace Go.Proofs.Ytcpegipojkbcoaa
open Go.RowKit
set_option linter.unusedVariables false
set_option linter.unusedSimpArgs false
namespace LW
open Words
theorem cells_two_new (w : World) (t : TypeId) {a b : Value} : ∀ j u, [a, b][j]? = some u → (w.alloc (.cells #[a, b] t)).cell? ((⟨w.heap.size, 0, none⟩ : Addr).add j) = some u := by
  intro j u hj
  rw [Addr.add_mid, Nat.zero_add]
  exact blk_cell (heap_alloc_new w (.cells #[a, b] t)) (by simpa using hj)
theorem hatL {A P R : Nat} (h1 : A + P = R) (h2 : R ≤ 1048576) : wrap64 ((A : Int) + wrap64 (P : Int)) = (R : Int) := by
  have e1 : wrap64 (P : Int) = P := by unfold wrap64; omega
  rw [e1]
  unfold wrap64
  omega
/-- What Unpack hands back, where it tells a path. -/
def UnK (t l K : Nat) (F : Nat → Stp) (w : World) : Ending → World → Prop := fun e w' => ∃ v xs gb, e = .returned (.tuple #[.agg #[.int .u64 t, .int .u64 l, v], .int .i64 0]) ∧ w.heap.size ≤ gb ∧ OwS w' gb v (K - 1) F xs ∧ Below w.heap.size w w'
theorem stepinfo : (Try.prog.info? 65).map (fun i => (i.zero, i.size, i.bytes)) = some (some (.agg #[.slice none 0 0, .slice none 0 0]), 2, 48) := by kernel_rfl
set_option maxRecDepth 100000 in
set_option maxHeartbeats 4000000 in
theorem runpK (T : Tr) (a : Option Addr) (zl cap : Nat) (w : World) (t l K : Nat) (zs : List Int) (AW WF WT S : Nat → Nat) (F : Nat → Stp) (m z : Nat) (hm : T.inn = (m : Int)) (hm1 : 1 ≤ m) (hm2 : m ≤ 64) (hz1 : 16 ≤ zl) (hz2 : zl ≤ 1048576) (hle : z ≤ (zl - 16) / m) (hmo : 16 + z * m = zl) (HV : ∀ W, Calls Try.prog 30 #[.agg (trC T)] W fun e w' => e = .returned (.int .i64 0) ∧ Below W.heap.size W w') (H0 : ∀ W, Below w.heap.size w W → Calls Try.prog 31 #[.slice a zl cap, .int .i64 0, .int .i64 8] W fun e w' => e = .returned (.tuple #[.int .u64 (t : Int), .int .i64 0]) ∧ W = w') (H8 : ∀ W, Below w.heap.size w W → Calls Try.prog 31 #[.slice a zl cap, .int .i64 8, .int .i64 8] W fun e w' => e = .returned (.tuple #[.int .u64 (l : Int), .int .i64 0]) ∧ W = w') (HZ : ∀ W, Calls Try.prog 6 #[.agg (trC T), .int .u64 t, .int .u64 l] W fun e w' => e = .returned (.tuple #[.int .u64 (z : Nat), .int .i64 0]) ∧ Below W.heap.size W w')
    (hK2 : 2 ≤ K) (hK : K ≤ 255) (hS0 : S 0 = 0) (hS : ∀ i, i + 1 < K → S (i + 1) = S i + (AW i - WF (i + 1) + (WT (i + 1) - AW i - 1))) (hSm : ∀ i, i + 1 ≤ K → S i ≤ z)
    (hX : ∀ i, i + 1 < K → WF (i + 1) ≤ AW i ∧ AW i < WT (i + 1) ∧ WT (i + 1) < 18446744073709551616)
    (hF : ∀ i, F i = (dgL zs (16 + S i * m) m (AW i - WF (i + 1)), dgL zs (16 + S i * m + (AW i - WF (i + 1)) * m) m (WT (i + 1) - AW i - 1)))
    (HW : ∀ W, Calls Try.prog 16 #[.agg (trC T), .int .u64 t, .int .u64 l] W fun e w' => ∃ g cap', e = .returned (.tuple #[.slice (some ⟨g, 0, none⟩) K cap', .int .i64 0]) ∧ (∀ i, i < K → w'.cell? ⟨g, i * 6 + 1, none⟩ = some (.int .u64 (AW i)) ∧ w'.cell? ⟨g, i * 6 + 2, none⟩ = some (.int .u64 (WF i)) ∧ w'.cell? ⟨g, i * 6 + 3, none⟩ = some (.int .u64 (WT i))) ∧ Below W.heap.size W w')
    (HD : ∀ (W : World) (at_ n : Nat), Below w.heap.size w W → at_ + n * m ≤ zl → Calls Try.prog 32 #[.slice a zl cap, .int .i64 at_, .int .u64 n, .int .i64 T.inn] W fun e w' => ∃ v, e = .returned v ∧ OL w' W.heap.size v (dgL zs at_ m n) ∧ Below W.heap.size W w') :
    Calls Try.prog 11 #[.agg (trC T), .slice a zl cap] w (UnK t l K F w) := by
  replace HV := TW.hide HV
  replace H0 := TW.hide H0
  replace H8 := TW.hide H8
  replace HZ := TW.hide HZ
  replace HW := TW.hide HW
  replace HD := TW.hide HD
  replace hF := TW.hide hF
  replace hX := TW.hide hX
  replace hS := TW.hide hS
  replace hSm := TW.hide hSm
  have e1 : IntKind.i64.wrap ((zl : Int) - 16) = ((zl - 16 : Nat) : Int) := by rw [IntKind.wrap_i64]; omega
  have e2 : IntKind.u64.wrap ((zl - 16 : Nat) : Int) = ((zl - 16 : Nat) : Int) := by rw [IntKind.wrap_u64]; omega
  have e3 : IntKind.u64.wrap T.inn = (m : Int) := by rw [IntKind.wrap_u64]; omega
  have e4 : IntKind.u64.wrap (((zl - 16 : Nat) : Int) / (m : Int)) = (((zl - 16) / m : Nat) : Int) := quo64 (zl - 16) m (by omega)
  have hm0 : ¬ (m : Int) = 0 := by omega
  have hq1 : (zl - 16) / m ≤ 1048576 := Nat.le_trans (Nat.div_le_self _ _) (by omega)
  have hq2 : z * m ≤ zl - 16 := Nat.le_trans (Nat.mul_le_mul_right m hle) (Nat.div_mul_le_self _ _)
  have e5 : IntKind.i64.wrap (z : Int) = (z : Int) := by rw [IntKind.wrap_i64]; omega
  have e6 : IntKind.i64.wrap ((z : Int) * T.inn) = ((z * m : Nat) : Int) := by rw [hm, ← Int.natCast_mul, IntKind.wrap_i64]; omega
  have e7 : IntKind.i64.wrap (16 + ((z * m : Nat) : Int)) = ((16 + z * m : Nat) : Int) := by rw [IntKind.wrap_i64]; omega
  have hg : ¬ (((zl - 16) / m : Nat) : Int) < (z : Int) := by omega
  replace hm := TW.hide hm
  have hmI : ¬ ((16 + z * m : Nat) : Int) < (zl : Int) := by omega
  replace hmo := TW.hide hmo
  clear hle hq2 hq1
  generalize (zl - 16) / m = q at *
  have e8 : ((16 + z * m : Nat) : Int) = ((16 + z * m : Nat) : Int) := rfl
  clear e8
  obtain ⟨s, hs⟩ : ∃ s, 16 + z * m = s := ⟨_, rfl⟩
  rw [hs] at e7 hmI
  clear hs
  obtain ⟨s1, hs1⟩ : ∃ s1, z * m = s1 := ⟨_, rfl⟩
  rw [hs1] at e6 e7
  clear hs1
  have HI5 := info_parts stepinfo
  obtain ⟨i6, hi6, hz60, hz61, hz62⟩ := HI5
  unfold trC at *
  have n0 := heap_alloc_new w (.cells #[.int .i64 T.k, .int .i64 T.d, .int .i64 T.f, .int .i64 T.dp, .int .u32 T.lf, .int .i64 T.inn, .slice T.ka T.kl T.kc, .slice T.sa T.sl T.sc, .slice T.pa T.pl T.pc] 26)
  have hb0 := (Below.refl w.heap.size w).alloc (Nat.le_refl _) (.cells #[.int .i64 T.k, .int .i64 T.d, .int .i64 T.f, .int .i64 T.dp, .int .u32 T.lf, .int .i64 T.inn, .slice T.ka T.kl T.kc, .slice T.sa T.sl T.sc, .slice T.pa T.pl T.pc] 26)
  have n1 := heap_alloc_new (w.alloc (.cells #[.int .i64 T.k, .int .i64 T.d, .int .i64 T.f, .int .i64 T.dp, .int .u32 T.lf, .int .i64 T.inn, .slice T.ka T.kl T.kc, .slice T.sa T.sl T.sc, .slice T.pa T.pl T.pc] 26)) (.cells #[.int .u64 0, .int .u64 0, .slice none 0 0] 37)
  rw [show (w.alloc (.cells #[.int .i64 T.k, .int .i64 T.d, .int .i64 T.f, .int .i64 T.dp, .int .u32 T.lf, .int .i64 T.inn, .slice T.ka T.kl T.kc, .slice T.sa T.sl T.sc, .slice T.pa T.pl T.pc] 26)).heap.size = w.heap.size + 1 by simp] at n1
  have n0 := blk_alloc (o' := .cells #[.int .u64 0, .int .u64 0, .slice none 0 0] 37) n0
  have hb1 := hb0.alloc hb0.size (.cells #[.int .u64 0, .int .u64 0, .slice none 0 0] 37)
  have N0 := TW.hide n0
  have N1 := TW.hide n1
  have NB := TW.hide hb1
  clear n0 n1 hb0 hb1
  go_enter Try.func11, Try.ntmps11
  refine wp_seq_k fun K hK => ?_
  have HK := TW.hide hK
  clear hK
  go_wp2_with fail
  refine HK.out _ _ ?_
  clear HK K
  generalize (w.alloc _).alloc _ = X at *
  obtain ⟨c0, c1, c2, c3, c4, c5, c6, c7, c8⟩ := cells9 N0.out
  go_wp2_with fail
  refine (HV.out _).mono ?_
  rintro e1 w1 ⟨rfl, hb⟩
  clear c0 c1 c2 c3 c4 c5 c6 c7 c8
  have N0 := TW.hide (blk_keep N0.out hb)
  have N1 := TW.hide (blk_keep N1.out hb)
  have NB : Hid (Below w.heap.size w w1) := NB.out.trans (hb.mono NB.out.size)
  clear hb
  go_wp2_with fail
  refine (H0.out _ NB.out).mono ?_
  rintro e2 w2 ⟨rfl, rfl⟩
  go_wp2_with fail
  refine (H8.out _ NB.out).mono ?_
  rintro e3 w3 ⟨rfl, rfl⟩
  obtain ⟨c0, c1, c2, c3, c4, c5, c6, c7, c8⟩ := cells9 N0.out
  go_wp2_with fail
  refine (HZ.out _).mono ?_
  rintro e4 w4 ⟨rfl, hb⟩
  clear c0 c1 c2 c3 c4 c5 c6 c7 c8
  have N0 := TW.hide (blk_keep N0.out hb)
  have N1 := TW.hide (blk_keep N1.out hb)
  have NB : Hid (Below w.heap.size w w4) := NB.out.trans (hb.mono NB.out.size)
  clear hb
  obtain ⟨c0, c1, c2, c3, c4, c5, c6, c7, c8⟩ := cells9 N0.out
  go_wp2_with fail
  refine (HW.out _).mono ?_
  rintro e5 w5 ⟨g, cap', rfl, hc, hb⟩
  clear c0 c1 c2 c3 c4 c5 c6 c7 c8
  have N0 := TW.hide (blk_keep N0.out hb)
  have N1 := TW.hide (blk_keep N1.out hb)
  have NB : Hid (Below w.heap.size w w5) := NB.out.trans (hb.mono NB.out.size)
  clear hb
  have HWY : Hid (∀ (W : World) (i : Nat), Below w5.heap.size w5 W → i < K → W.cell? ⟨g, i * 6 + 1, none⟩ = some (.int .u64 (AW i)) ∧ W.cell? ⟨g, i * 6 + 2, none⟩ = some (.int .u64 (WF i)) ∧ W.cell? ⟨g, i * 6 + 3, none⟩ = some (.int .u64 (WT i))) := by
    intro W i hb hi
    obtain ⟨h1, h2, h3⟩ := hc i hi
    exact ⟨by rw [hb.cell (lt_of_cell h1)]; exact h1, by rw [hb.cell (lt_of_cell h2)]; exact h2, by rw [hb.cell (lt_of_cell h3)]; exact h3⟩
  clear hc HV H0 H8 HZ HW e1 e2 e3 e4 e5 e6 e7 hg hmI hm0
  have NP := TW.hide (heap_alloc_new w5 (.cells #[.int .u64 t, .int .u64 l, .slice none 0 0] 37))
  have M5 : Hid (Below w5.heap.size w5 (w5.alloc (.cells #[.int .u64 t, .int .u64 l, .slice none 0 0] 37))) := (Below.refl _ _).alloc (Nat.le_refl _) _
  have HGP : Hid (w.heap.size + 1 < w5.heap.size) := blk_lt N1.out
  have HB5 : Hid (Below w.heap.size w w5) := NB.out
  have HBX : Hid (∀ W, Below w5.heap.size w5 W → W.heap[w.heap.size]? = some (.cells #[.int .i64 T.k, .int .i64 T.d, .int .i64 T.f, .int .i64 T.dp, .int .u32 T.lf, .int .i64 T.inn, .slice T.ka T.kl T.kc, .slice T.sa T.sl T.sc, .slice T.pa T.pl T.pc] 26 (0, 0)) ∧ W.heap[w.heap.size + 1]? = some (.cells #[.int .u64 0, .int .u64 0, .slice none 0 0] 37 (0, 0))) := fun W h => ⟨blk_keep N0.out h, blk_keep N1.out h⟩
  clear N0 N1 NB
  go_wp2
  generalize w5.alloc _ = V at *
  generalize hgp : w5.heap.size = gp at *
  replace hgp := TW.hide hgp
  go_loopw [15, 16, 17, 18] (fun at_ i x y wr => ∃ (j : Nat) (v : Value) (xs : List Value), j + 1 ≤ K ∧ at_ = .int .i64 ((16 + S j * m : Nat) : Int) ∧ i = .int .i64 ((j + 1 : Nat) : Int) ∧ OwS wr (gp + 1) v j F xs ∧ wr.heap[gp]? = some (.cells #[.int .u64 t, .int .u64 l, v] 37 (0, 0)) ∧ Below gp w5 wr)
    (fun at_ i x y wr => K - (intOf i).toNat)
  case atStart => exact ⟨0, .slice none 0 0, [], by omega, by rw [hS0]; simp, rfl, ⟨⟨rfl, .inl ⟨rfl, rfl⟩⟩, fun i hi => by omega⟩, NP.out, M5.out⟩
  case round =>
    obtain ⟨j, v, xs, hj, rfl, rfl, ho, hpp, hb⟩ := hrel
    have HO := TW.hide ho
    have HPP := TW.hide hpp
    have HB := TW.hide hb
    clear ho hpp hb NP
    by_cases hlt : j + 1 < K
    · have HLT := TW.hide hlt
      obtain ⟨_, y2, y3⟩ := HWY.out wr (j + 1) HB.out hlt
      obtain ⟨x1, _, _⟩ := HWY.out wr j HB.out (by omega)
      obtain ⟨z1, z2, z3⟩ := hX.out j hlt
      have hSj := hS.out j hlt
      have hFj := hF.out j
      have hin := hm.out
      have hzl := hmo.out
      have hSz := hSm.out (j + 1) (by omega)
      have hmu : S (j + 1) * m ≤ z * m := Nat.mul_le_mul_right m hSz
      have hmv : S (j + 1) * m = S j * m + ((AW j - WF (j + 1)) * m + (WT (j + 1) - AW j - 1) * m) := by rw [hSj, Nat.add_mul, Nat.add_mul]
      have hzz : z ≤ 1048576 := by have := Nat.le_mul_of_pos_right z hm1; omega
      have e1 : IntKind.u64.wrap ((AW j : Int) - (WF (j + 1) : Int)) = ((AW j - WF (j + 1) : Nat) : Int) := by rw [IntKind.wrap_u64]; omega
      have e2 : IntKind.u64.wrap ((WT (j + 1) : Int) - (AW j : Int)) = ((WT (j + 1) - AW j : Nat) : Int) := by rw [IntKind.wrap_u64]; omega
      have e3 : IntKind.u64.wrap (((WT (j + 1) - AW j : Nat) : Int) - 1) = ((WT (j + 1) - AW j - 1 : Nat) : Int) := by rw [IntKind.wrap_u64]; omega
      have e4 : IntKind.i64.wrap (((j + 1 : Nat) : Int) + 1) = ((j + 1 + 1 : Nat) : Int) := by rw [IntKind.wrap_i64]; omega
      have hw1 : IntKind.i64.wrap (((j + 1 : Nat) : Int) - 1) = (j : Int) := by rw [IntKind.wrap_i64]; omega
      generalize AW j - WF (j + 1) = q1 at *
      generalize WT (j + 1) - AW j - 1 = q3 at *
      generalize WT (j + 1) - AW j = q2 at *
      generalize AW j = y1 at *
      generalize WF (j + 1) = y4 at *
      generalize WT (j + 1) = y5 at *
      have hq1 : q1 ≤ 1048576 := by omega
      have hq3 : q3 ≤ 1048576 := by omega
      have e5 : IntKind.i64.wrap (q1 : Int) = (q1 : Int) := by rw [IntKind.wrap_i64]; omega
      have e6 : IntKind.i64.wrap ((q1 : Int) * T.inn) = ((q1 * m : Nat) : Int) := by rw [hin, ← Int.natCast_mul, IntKind.wrap_i64]; omega
      have e7 : IntKind.i64.wrap (((16 + S j * m : Nat) : Int) + ((q1 * m : Nat) : Int)) = ((16 + S j * m + q1 * m : Nat) : Int) := by rw [IntKind.wrap_i64]; omega
      have e8 : IntKind.u64.wrap ((q1 : Int) + (q3 : Int)) = ((q1 + q3 : Nat) : Int) := by rw [IntKind.wrap_u64]; omega
      have e9 : IntKind.i64.wrap ((q1 + q3 : Nat) : Int) = ((q1 + q3 : Nat) : Int) := by rw [IntKind.wrap_i64]; omega
      have hq13 : (q1 + q3) * m = q1 * m + q3 * m := Nat.add_mul _ _ _
      have e10 : IntKind.i64.wrap (((q1 + q3 : Nat) : Int) * T.inn) = (((q1 + q3) * m : Nat) : Int) := by rw [hin, ← Int.natCast_mul, IntKind.wrap_i64]; omega
      have e11 : IntKind.i64.wrap (((16 + S j * m : Nat) : Int) + (((q1 + q3) * m : Nat) : Int)) = ((16 + S (j + 1) * m : Nat) : Int) := by rw [IntKind.wrap_i64]; omega
      have hat : wrap64 (((16 + S j * m : Nat) : Int) + wrap64 (((q1 : Int) + (q3 : Int)) * T.inn)) = ((16 + S (j + 1) * m : Nat) : Int) := by
        rw [hin, show ((q1 : Int) + (q3 : Int)) * (m : Int) = (((q1 + q3) * m : Nat) : Int) by rw [Int.natCast_mul, Int.natCast_add]]
        exact hatL (by omega) (by omega)
      have HAT := TW.hide hat
      clear hat
      have HD1 : Hid (∀ W, Below w.heap.size w W → _) := fun W hW => HD.out W (16 + S j * m) q1 hW (by omega)
      have HD2 : Hid (∀ W, Below w.heap.size w W → _) := fun W hW => HD.out W (16 + S j * m + q1 * m) q3 hW (by omega)
      have HFJ := TW.hide hFj
      have HJ : Hid (j + 1 ≤ 255) := by show _ ≤ _; omega
      clear z1 z2 z3 hSj hFj hin hzl hSz hmu hmv hzz hq13 hlt
      obtain ⟨A2, hA2⟩ : ∃ A2, 16 + S (j + 1) * m = A2 := ⟨_, rfl⟩
      rw [hA2] at e11 HAT
      have HA2 := TW.hide hA2
      clear hA2
      generalize 16 + S j * m + q1 * m = A1 at *
      generalize 16 + S j * m = A0 at *
      generalize (q1 + q3) * m = x13 at *
      generalize q1 * m = x1m at *
      have hiI : ((j + 1 : Nat) : Int) < (K : Int) := by have := HLT.out; omega
      have hj0 : (0 : Int) ≤ (j : Int) := by omega
      have hjK : (j : Int) < (K : Int) := by omega
      obtain ⟨i1, hi1⟩ : ∃ i1, j + 1 = i1 := ⟨_, rfl⟩
      have HI1 := TW.hide hi1
      rw [hi1] at hw1 e4 y2 y3 hiI ⊢
      have hi0 : (0 : Int) ≤ (i1 : Int) := by omega
      clear hi1
      go_wp2
      go_quiet (fail)
      go_wp2
      go_quiet (fail)
      go_wp2
      refine wp_region_noPanic ?_
      refine RG.wp_region_L (fun Z => Z.cell? ⟨gp, 2, none⟩ = some v) (fun Z => Z.heap[w.heap.size]? = some (.cells #[.int .i64 T.k, .int .i64 T.d, .int .i64 T.f, .int .i64 T.dp, .int .u32 T.lf, .int .i64 T.inn, .slice T.ka T.kl T.kc, .slice T.sa T.sl T.sc, .slice T.pa T.pl T.pc] 26 (0, 0))) [24] (by kernel_rfl) ?_
      refine RG.wpL_any fun Y hY => ?_
      have BY : Hid (Below gp w5 Y) := by rw [hY]; exact below_drewN (below_drewN (below_drewN HB.out _) _) 1
      have OY : Hid (OwS Y (gp + 1) v j F xs) := by rw [hY]; exact HO.out.below (below_drewN (below_drewN (below_drewN (Below.refl _ _) _) _) 1)
      have PY : Hid (Y.heap[gp]? = some (.cells #[.int .u64 t, .int .u64 l, v] 37 (0, 0))) := by rw [hY]; exact HPP.out
      clear hY HB HO HPP
      have TY := TW.hide (HBX.out Y BY.out).1
      have SY := TW.hide (cellsP3 PY.out).2.2
      refine RG.wpL_take (fuel := 7) (a' := ?At) [0, 1, 2, 3, 4, 5, 6, 8, 9, 10, 11, 12, 13, 14, 15, 16, 17, 18] (by kernel_rfl) (by kernel_rfl) (fun _ _ _ _ _ h => h) TY.out (fun _ => SY.out) ?rt ?_
      case rt =>
        refine RG.RunsIf.weak (v := ?_) (by rfl) (by rfl) (fun Z hT => ?_) ?_
        rotate_left
        · go_simp
          rfl
        simp only [Act.put, List.setIfInBounds_toArray, List.set_cons_zero, List.set_cons_succ, List.getElem_toArray, List.getElem_cons_zero, List.getElem_cons_succ]
        refine RG.RunsIf.strong (v := v) (by rfl) (by kernel_rfl) (by rfl) (fun Z hT hS => ?_) ?_
        · go_simp
        simp only [Act.put, List.setIfInBounds_toArray, List.set_cons_zero, List.set_cons_succ, List.getElem_toArray, List.getElem_cons_zero, List.getElem_cons_succ]
        refine RG.RunsIf.weak (v := ?_) (by rfl) (by rfl) (fun Z hT => ?_) ?_
        rotate_left
        · go_simp
          rfl
        simp only [Act.put, List.setIfInBounds_toArray, List.set_cons_zero, List.set_cons_succ, List.getElem_toArray, List.getElem_cons_zero, List.getElem_cons_succ]
        refine RG.RunsIf.weak (v := ?_) (by rfl) (by rfl) (fun Z hT => ?_) ?_
        rotate_left
        · go_simp
          rfl
        simp only [Act.put, List.setIfInBounds_toArray, List.set_cons_zero, List.set_cons_succ, List.getElem_toArray, List.getElem_cons_zero, List.getElem_cons_succ]
        refine RG.RunsIf.weak (v := ?_) (by rfl) (by rfl) (fun Z hT => ?_) ?_
        rotate_left
        · go_simp
          rfl
        simp only [Act.put, List.setIfInBounds_toArray, List.set_cons_zero, List.set_cons_succ, List.getElem_toArray, List.getElem_cons_zero, List.getElem_cons_succ]
        refine RG.RunsIf.weak (v := ?_) (by rfl) (by rfl) (fun Z hT => ?_) ?_
        rotate_left
        · go_simp
          rfl
        simp only [Act.put, List.setIfInBounds_toArray, List.set_cons_zero, List.set_cons_succ, List.getElem_toArray, List.getElem_cons_zero, List.getElem_cons_succ]
        refine RG.RunsIf.weak (v := .int .i64 T.inn) (by rfl) (by rfl) (fun Z hT => ?_) ?_
        · obtain ⟨c0, c1, c2, c3, c4, c5, c6, c7, c8⟩ := cells9 hT
          go_simp
        simp only [Act.put, List.setIfInBounds_toArray, List.set_cons_zero, List.set_cons_succ, List.getElem_toArray, List.getElem_cons_zero, List.getElem_cons_succ]
        refine RG.RunsIf.weak (v := ?_) (by rfl) (by rfl) (fun Z hT => ?_) ?_
        rotate_left
        · go_simp
          rfl
        simp only [Act.put, List.setIfInBounds_toArray, List.set_cons_zero, List.set_cons_succ, List.getElem_toArray, List.getElem_cons_zero, List.getElem_cons_succ]
        refine RG.RunsIf.weak (v := ?_) (by rfl) (by rfl) (fun Z hT => ?_) ?_
        rotate_left
        · go_simp
          rfl
        simp only [Act.put, List.setIfInBounds_toArray, List.set_cons_zero, List.set_cons_succ, List.getElem_toArray, List.getElem_cons_zero, List.getElem_cons_succ]
        refine RG.RunsIf.weak (v := ?_) (by rfl) (by rfl) (fun Z hT => ?_) ?_
        rotate_left
        · go_simp
          rfl
        simp only [Act.put, List.setIfInBounds_toArray, List.set_cons_zero, List.set_cons_succ, List.getElem_toArray, List.getElem_cons_zero, List.getElem_cons_succ]
        refine RG.RunsIf.weak (v := ?_) (by rfl) (by rfl) (fun Z hT => ?_) ?_
        rotate_left
        · go_simp
          rfl
        simp only [Act.put, List.setIfInBounds_toArray, List.set_cons_zero, List.set_cons_succ, List.getElem_toArray, List.getElem_cons_zero, List.getElem_cons_succ]
        refine RG.RunsIf.weak (v := ?_) (by rfl) (by rfl) (fun Z hT => ?_) ?_
        rotate_left
        · go_simp
          rfl
        simp only [Act.put, List.setIfInBounds_toArray, List.set_cons_zero, List.set_cons_succ, List.getElem_toArray, List.getElem_cons_zero, List.getElem_cons_succ]
        refine RG.RunsIf.weak (v := .int .i64 T.inn) (by rfl) (by rfl) (fun Z hT => ?_) ?_
        · obtain ⟨c0, c1, c2, c3, c4, c5, c6, c7, c8⟩ := cells9 hT
          go_simp
        simp only [Act.put, List.setIfInBounds_toArray, List.set_cons_zero, List.set_cons_succ, List.getElem_toArray, List.getElem_cons_zero, List.getElem_cons_succ]
        refine RG.RunsIf.weak (v := ?_) (by rfl) (by rfl) (fun Z hT => ?_) ?_
        rotate_left
        · go_simp
          rfl
        simp only [Act.put, List.setIfInBounds_toArray, List.set_cons_zero, List.set_cons_succ, List.getElem_toArray, List.getElem_cons_zero, List.getElem_cons_succ]
        refine RG.RunsIf.weak (v := ?_) (by rfl) (by rfl) (fun Z hT => ?_) ?_
        rotate_left
        · go_simp
          rfl
        simp only [Act.put, List.setIfInBounds_toArray, List.set_cons_zero, List.set_cons_succ, List.getElem_toArray, List.getElem_cons_zero, List.getElem_cons_succ]
        refine RG.RunsIf.weak (v := ?_) (by rfl) (by rfl) (fun Z hT => ?_) ?_
        rotate_left
        · go_simp
          rfl
        simp only [Act.put, List.setIfInBounds_toArray, List.set_cons_zero, List.set_cons_succ, List.getElem_toArray, List.getElem_cons_zero, List.getElem_cons_succ]
        refine RG.RunsIf.weak (v := ?_) (by rfl) (by rfl) (fun Z hT => ?_) ?_
        rotate_left
        · go_simp
          rfl
        simp only [Act.put, List.setIfInBounds_toArray, List.set_cons_zero, List.set_cons_succ, List.getElem_toArray, List.getElem_cons_zero, List.getElem_cons_succ]
        refine RG.RunsIf.weak (v := .int .i64 T.inn) (by rfl) (by rfl) (fun Z hT => ?_) ?_
        · obtain ⟨c0, c1, c2, c3, c4, c5, c6, c7, c8⟩ := cells9 hT
          go_simp
        simp only [Act.put, List.setIfInBounds_toArray, List.set_cons_zero, List.set_cons_succ, List.getElem_toArray, List.getElem_cons_zero, List.getElem_cons_succ]
        exact RG.RunsIf.nil
      refine RG.wpL_step (i := 7) (by kernel_rfl) (by rfl) (by rfl) (fun KX hK => ?_)
      have HK := TW.hide hK
      clear hK
      go_simp
      refine (HD1.out _ (HB5.out.trans (BY.out.mono (by have := HGP.out; omega)))).mono ?_
      rintro ex1 W1 ⟨v1, rfl, hol, hb⟩
      have O1 := TW.hide (hol.base (B' := gp + 1) (blk_lt PY.out))
      obtain ⟨a1, k1, hv1, _⟩ := hol.one
      have BY1 : Hid (Below gp w5 W1) := BY.out.trans (hb.mono (Nat.le_of_lt (blk_lt PY.out)))
      have OY1 := TW.hide (OY.out.below hb)
      have PY1 := TW.hide (blk_keep PY.out hb)
      have TY1 := TW.hide (HBX.out W1 BY1.out).1
      have SY1 := TW.hide (cellsP3 PY1.out).2.2
      refine HK.out _ _ TY1.out (fun _ => SY1.out) ?_
      clear HK KX hb hol BY OY PY TY SY
      rw [dgL_len] at hv1
      subst hv1
      try simp only [Act.put, List.setIfInBounds_toArray, List.set_cons_zero, List.set_cons_succ, List.getElem_toArray, List.getElem_cons_zero, List.getElem_cons_succ]
      refine RG.wpL_step (i := 19) (by kernel_rfl) (by rfl) (by rfl) (fun KX hK => ?_)
      have HK := TW.hide hK
      clear hK
      go_simp
      refine (HD2.out _ (HB5.out.trans (BY1.out.mono (by have := HGP.out; omega)))).mono ?_
      rintro ex2 W2 ⟨v2, rfl, hol, hb⟩
      have O2 := TW.hide (hol.base (B' := gp + 1) (blk_lt PY1.out))
      obtain ⟨a2, k2, hv2, _⟩ := hol.one
      have BY2 : Hid (Below gp w5 W2) := BY1.out.trans (hb.mono (Nat.le_of_lt (blk_lt PY1.out)))
      have OY2 := TW.hide (OY1.out.below hb)
      have PY2 := TW.hide (blk_keep PY1.out hb)
      have O1 := TW.hide (O1.out.below hb)
      have TY2 := TW.hide (HBX.out W2 BY2.out).1
      have SY2 := TW.hide (cellsP3 PY2.out).2.2
      refine HK.out _ _ TY2.out (fun _ => SY2.out) ?_
      clear HK KX hb hol BY1 OY1 PY1 TY1 SY1
      rw [dgL_len] at hv2
      subst hv2
      try simp only [Act.put, List.setIfInBounds_toArray, List.set_cons_zero, List.set_cons_succ, List.getElem_toArray, List.getElem_cons_zero, List.getElem_cons_succ]
      refine RG.wpL_take (fuel := 4) (a' := ?Au) [20] (by kernel_rfl) (by kernel_rfl) (fun _ _ _ _ _ h => h) TY2.out (fun _ => SY2.out) ?ru ?_
      case ru =>
        refine RG.RunsIf.weak (v := ?_) (by rfl) (by rfl) (fun Z hT => ?_) ?_
        rotate_left
        · go_simp
          rfl
        simp only [Act.put, List.setIfInBounds_toArray, List.set_cons_zero, List.set_cons_succ, List.getElem_toArray, List.getElem_cons_zero, List.getElem_cons_succ]
        exact RG.RunsIf.nil
      have hA : Below W2.heap.size W2 (W2.alloc (.cells #[.slice a1 q1 k1, .slice a2 q3 k2] 65)) := (Below.refl _ _).alloc (Nat.le_refl _) _
      have BY3 : Hid (Below gp w5 (W2.alloc (.cells #[.slice a1 q1 k1, .slice a2 q3 k2] 65))) := BY2.out.trans (hA.mono (Nat.le_of_lt (blk_lt PY2.out)))
      have OY3 := TW.hide (OY2.out.below hA)
      have PY3 := TW.hide (blk_keep PY2.out hA)
      have O13 := TW.hide (O1.out.below hA)
      have O23 := TW.hide (O2.out.below hA)
      have TY3 := TW.hide (HBX.out _ BY3.out).1
      have SY3 := TW.hide (cellsP3 PY3.out).2.2
      have HNEW : Hid (∀ (j : Nat) (u : Value), ([.slice a1 q1 k1, .slice a2 q3 k2] : List Value)[j]? = some u → (W2.alloc (.cells #[.slice a1 q1 k1, .slice a2 q3 k2] 65)).cell? ((⟨W2.heap.size, 0, none⟩ : Addr).add j) = some u) := cells_two_new _ _
      have hsz : Hid (gp + 1 ≤ (W2.alloc (.cells #[.slice a1 q1 k1, .slice a2 q3 k2] 65)).heap.size) := blk_lt PY3.out
      refine RG.wpL_step (i := 21) (by kernel_rfl) (by rfl) (by rfl) (fun KX hK => ?_)
      have HK := TW.hide hK
      clear hK
      go_simp
      refine HK.out _ _ TY3.out (fun _ => SY3.out) ?_
      clear HK KX hA BY2 OY2 PY2 O1 O2 TY2 SY2
      generalize W2.alloc (.cells #[.slice a1 q1 k1, .slice a2 q3 k2] 65) = W3 at *
      generalize W2.heap.size = gn at *
      refine RG.wpL_step (i := 22) (by kernel_rfl) (by rfl) (by rfl) (fun KX hK => ?_)
      have HK := TW.hide hK
      clear hK
      refine wp_append_own W3 _ _ 35 (by rfl) (gp + 1) 65 i6 (.agg #[.slice none 0 0, .slice none 0 0]) 2 48 Try.underlying35 hi6 hz60 hz61 hz62 rfl (by decide) v j xs (by rfl) OY3.out.own ⟨gn, 0, none⟩ 1 1 [.slice a1 q1 k1, .slice a2 q3 k2] (by rfl) rfl HNEW.out (by simp [Value.oneCell']) (by have := HJ.out; unfold maxLen; omega) (by have := HJ.out; omega) hsz.out ?_
      intro v' w6 hown6 hgr6 _
      obtain ⟨g6, c6, rfl⟩ := ownsRow_succ hown6
      have hne : ∀ q, v.ownBlock = some q → gp + 1 ≤ q := fun q hq => ow_block OY3.out.own q hq
      have BY4 : Hid (Below gp w5 w6) := BY3.out.grown hgr6 (by have := hsz.out; omega) (fun q hq => by have := hne q hq; omega)
      have PY4 := TW.hide (ow_grown PY3.out hgr6 (fun h => by have := hne _ h; omega))
      have OY4 : Hid (OwS w6 (gp + 1) (.slice (some ⟨g6, 0, none⟩) (j + 1) c6) (j + 1) F (xs ++ [.slice a1 q1 k1, .slice a2 q3 k2])) := OY3.out.more (by rw [HFJ.out]; exact O13.out) (by rw [HFJ.out]; exact O23.out) hown6 hgr6
      have TY4 := TW.hide (HBX.out _ BY4.out).1
      have SY4 := TW.hide (cellsP3 PY4.out).2.2
      refine HK.out _ _ TY4.out (fun _ => SY4.out) ?_
      clear HK KX hown6 hgr6 hne BY3 OY3 PY3 O13 O23 TY3 SY3 HNEW hsz
      try simp only [Act.put, List.setIfInBounds_toArray, List.set_cons_zero, List.set_cons_succ, List.getElem_toArray, List.getElem_cons_zero, List.getElem_cons_succ]
      have hf6 : w6.frozen? ⟨gp, 2, none⟩ = false := by simp [World.frozen?, PY4.out]
      have hs6 := SY4.out
      have PY5 : Hid ((w6.setCell ⟨gp, 2, none⟩ (.slice (some ⟨g6, 0, none⟩) (j + 1) c6)).heap[gp]? = some (.cells #[.int .u64 t, .int .u64 l, .slice (some ⟨g6, 0, none⟩) (j + 1) c6] 37 (0, 0))) := blk_set (i := 2) (u := (.slice (some ⟨g6, 0, none⟩) (j + 1) c6)) PY4.out
      have OY5 := TW.hide (OY4.out.set (o := 2) (u0 := (.slice (some ⟨g6, 0, none⟩) (j + 1) c6)) (Nat.lt_succ_self gp))
      have BY5 : Hid (Below gp w5 (w6.setCell ⟨gp, 2, none⟩ (.slice (some ⟨g6, 0, none⟩) (j + 1) c6))) := BY4.out.setCell (p := ⟨gp, 2, none⟩) (Nat.le_refl _) _
      have TY5 := TW.hide (HBX.out _ BY5.out).1
      refine RG.wpL_take (fuel := 1) (a' := ?Aw) [23] (by kernel_rfl) (by kernel_rfl) (fun _ _ _ _ _ h => h) TY4.out (fun _ => SY4.out) ?rw ?_
      case rw =>
        refine RG.RunsIf.weak (v := ?_) (by rfl) (by rfl) (fun Z hT => ?_) ?_
        rotate_left
        · go_simp
          rfl
        simp only [Act.put, List.setIfInBounds_toArray, List.set_cons_zero, List.set_cons_succ, List.getElem_toArray, List.getElem_cons_zero, List.getElem_cons_succ]
        exact RG.RunsIf.nil
      refine RG.wpL_late (i := 24) (by kernel_rfl) (by rfl) (by rfl) (by kernel_rfl) (fun KX hK => ?_)
      have HK := TW.hide hK
      clear hK
      go_simp
      refine HK.out _ _ TY5.out ?_
      clear HK KX hs6 hf6 PY4 OY4 BY4 TY4 SY4 TY5
      refine RG.wpL_done (by kernel_rfl) ?_ _
      refine NoPanic.normal ?_
      generalize w6.setCell _ _ = X6 at *
      obtain ⟨c0, c1, c2, c3, c4, c5, c6, c7, c8⟩ := cells9 (HBX.out _ BY5.out).1
      go_wp2
      exact ⟨⟨j + 1, _, _, HLT.out, (by rw [HAT.out, HA2.out]), (by rw [HI1.out]; go_num), OY5.out, PY5.out, BY5.out⟩, (by simp [intOf]; have := HLT.out; have := HI1.out; omega)⟩
    · have hiI : ¬ ((j + 1 : Nat) : Int) < (K : Int) := by omega
      have HJK : Hid (K - 1 = j) := by show _ = _; omega
      clear hlt
      generalize ((j + 1 : Nat) : Int) = jj at *
      have hbx := (HBX.out wr HB.out).2
      have N1 := TW.hide hbx
      have hpe := HPP.out
      clear hbx
      obtain ⟨d0, d1, d2⟩ := cellsP3 hpe
      obtain ⟨av, cv, hve, _⟩ := HO.out.sts
      subst hve
      go_wp2_with (refine wpList_store_row (by rfl) 37 _ _ (by rfl) (w.heap.size + 1) #[.int .u64 t, .int .u64 l, .slice av j cv] (by rfl) (by rfl) 37 _ N1.out (by kernel_rfl) (by rfl) (by simp [Value.oneCell']) ?_)
      refine bodyPost_ret (v := .tuple #[.agg #[.int .u64 t, .int .u64 l, .slice av j cv], .int .i64 0]) (results_row_tmp (P := Try.prog) Try.results11 _ _ (w.heap.size + 1) 37 _ (0, 0) _ _ (by rfl) (by rfl) (setRow_heap _ _ _ _ _ _ N1.out) Try.underlying37 rfl (by kernel_rfl)) rfl ?_
      refine ⟨_, xs, gp + 1, rfl, (by have := HGP.out; omega), ?_, below_setRow (HB5.out.trans (HB.out.mono (by have := HGP.out; omega))) (by omega)⟩
      rw [HJK.out]
      exact HO.out.setR (by have := HGP.out; omega)
end LW
end Go.Proofs.Ytcpegipojkbcoaa
