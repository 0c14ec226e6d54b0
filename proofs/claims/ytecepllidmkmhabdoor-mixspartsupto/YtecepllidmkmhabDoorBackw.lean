/-
  What the call back gives: the eight steps of a round undone.
-/
import Derived.Test.YtecepllidmkmhabDoorForth
namespace Go.Proofs.YtecepllidmkmhabDoor
open Go.RowKit
set_option linter.unusedVariables false
set_option linter.unusedSimpArgs false
namespace MX
open Turn
attribute [local go_sem ↓] Go.wp_at_zero Go.wp_at_succ
set_option maxRecDepth 100000 in
set_option maxHeartbeats 4000000 in
theorem back (vs ms : List Int) (n : Nat) (w : World) (hv : vs.length = 16) (hm : ms.length = 16) (hV : Ws vs) (hM : Ws ms) (hn : n < 10) (ht : Tab w 1 .u8 ordL) :
    Calls Tryd.prog 29 #[.agg (K .u32 vs), .agg (K .u32 ms), .int .i64 n] w fun e w' => e = .returned (.agg (K .u32 (backL vs ms n))) ∧ Below w.heap.size w w' := by
  have hr10 : n < 10 := hn
  unfold backL
  rw [show n % 10 = n by omega]
  have hb := ((((Below.refl w.heap.size w).alloc (Nat.le_refl _) (.cells (K .u32 vs) 34)).alloc (by simp; try omega) (.cells (K .u32 ms) 34)).alloc (by simp; try omega) (.cells (K .u32 (List.replicate 16 0)) 34))
  have n0 := (blk_alloc (o' := .cells (K .u32 (List.replicate 16 0)) 34) (blk_alloc (o' := .cells (K .u32 ms) 34) (heap_new w (.cells (K .u32 vs) 34))))
  have n1 := (blk_alloc (o' := .cells (K .u32 (List.replicate 16 0)) 34) (heap_new (w.alloc (.cells (K .u32 vs) 34)) (.cells (K .u32 ms) 34)))
  rw [show (w.alloc (.cells (K .u32 vs) 34)).heap.size = w.heap.size + 1 by simp] at n1
  have n2 := (heap_new ((w.alloc (.cells (K .u32 vs) 34)).alloc (.cells (K .u32 ms) 34)) (.cells (K .u32 (List.replicate 16 0)) 34))
  rw [show ((w.alloc (.cells (K .u32 vs) 34)).alloc (.cells (K .u32 ms) 34)).heap.size = w.heap.size + 1 + 1 by simp] at n2
  go_enter Tryd.func29, Tryd.ntmps29
  refine wp_seq_k fun K hK => ?_
  have HK := TW.hide hK
  clear hK
  go_wp2
  refine HK.out _ _ ?_
  clear HK K
  change Code.wp _ _ _ _ (((w.alloc (.cells (K .u32 vs) 34)).alloc (.cells (K .u32 ms) 34)).alloc (.cells (K .u32 (List.replicate 16 0)) 34))
  generalize hWW : ((w.alloc (.cells (K .u32 vs) 34)).alloc (.cells (K .u32 ms) 34)).alloc (.cells (K .u32 (List.replicate 16 0)) 34) = W at hb n0 n1 n2 ⊢
  have hW : W.heap.size = w.heap.size + 1 + 1 + 1 := by rw [← hWW]; simp
  clear hWW
  have hsg := sigma (n : Int) W (ht.below hb)
  rw [show ((n : Int) % 10).toNat = n by omega] at hsg
  have hpl := fun X => places X
  have hlen := ord_length n hr10
  have hi := (show (Tryd.prog.info? 71).map (·.size) = some (K .i64 (ord n)).size by rw [K_size, hlen]; kernel_rfl)
  have hh := (show (#[.int .i64 0, .int .i64 0, .int .i64 0, .int .i64 0, .int .i64 0, .int .i64 0, .int .i64 0, .int .i64 0, .int .i64 0, .int .i64 0, .int .i64 0, .int .i64 0, .int .i64 0, .int .i64 0, .int .i64 0, .int .i64 0] : Array Value).size = (K .i64 (ord n)).size by rw [K_size, hlen]; rfl)
  generalize hB : w.heap.size = B at *
  have HSG := TW.hide hsg
  have HPL := TW.hide hpl
  have HL := TW.hide hlen
  have HI := TW.hide hi
  have HH := TW.hide hh
  have H0 := TW.hide n0
  have H1 := TW.hide n1
  have H2 := TW.hide n2
  have HB := TW.hide hb
  clear hsg hpl hlen hi hh n0 n1 n2 hb
  clear ht hB
  refine wp_seq_k fun KK hK => ?_
  have HK := TW.hide hK
  clear hK
  go_wp2_with fail
  refine (HSG.out).mono ?_
  rintro e w1 ⟨rfl, hb1⟩
  have M0 := TW.hide (blk_keep H0.out hb1)
  have M1 := TW.hide (blk_keep H1.out hb1)
  have M2 := TW.hide (blk_keep H2.out hb1)
  have MB : Hid (Below B w w1) := below_row HB.out hb1 (by omega)
  clear hb1 H0 H1 H2 HB HSG
  go_wp2_with fail
  refine (HPL.out _).mono ?_
  rintro e w2 ⟨rfl, hb2⟩
  have H0 := TW.hide (blk_keep M0.out hb2)
  have H1 := TW.hide (blk_keep M1.out hb2)
  have H2 := TW.hide (blk_keep M2.out hb2)
  have HB : Hid (Below B w w2) := below_row MB.out hb2 (by have := blk_lt M2.out; omega)
  have hwo : B + 1 + 1 < w2.heap.size := by have := blk_lt H2.out; omega
  clear hb2 M0 M1 M2 MB HPL
  have a3 := blk_alloc (o' := .cells #[.int .u8 0, .int .u8 0, .int .u8 0, .int .u8 0, .int .u8 0, .int .u8 0, .int .u8 0, .int .u8 0, .int .u8 0, .int .u8 0, .int .u8 0, .int .u8 0, .int .u8 0, .int .u8 0, .int .u8 0, .int .u8 0, .int .u8 0, .int .u8 0, .int .u8 0, .int .u8 0, .int .u8 0, .int .u8 0, .int .u8 0, .int .u8 0, .int .u8 0, .int .u8 0, .int .u8 0, .int .u8 0, .int .u8 0, .int .u8 0, .int .u8 0, .int .u8 0] 74) (heap_new w2 (.cells #[.int .i64 0, .int .i64 0, .int .i64 0, .int .i64 0, .int .i64 0, .int .i64 0, .int .i64 0, .int .i64 0, .int .i64 0, .int .i64 0, .int .i64 0, .int .i64 0, .int .i64 0, .int .i64 0, .int .i64 0, .int .i64 0] 71))
  have a4 := heap_new (w2.alloc (.cells #[.int .i64 0, .int .i64 0, .int .i64 0, .int .i64 0, .int .i64 0, .int .i64 0, .int .i64 0, .int .i64 0, .int .i64 0, .int .i64 0, .int .i64 0, .int .i64 0, .int .i64 0, .int .i64 0, .int .i64 0, .int .i64 0] 71)) (.cells #[.int .u8 0, .int .u8 0, .int .u8 0, .int .u8 0, .int .u8 0, .int .u8 0, .int .u8 0, .int .u8 0, .int .u8 0, .int .u8 0, .int .u8 0, .int .u8 0, .int .u8 0, .int .u8 0, .int .u8 0, .int .u8 0, .int .u8 0, .int .u8 0, .int .u8 0, .int .u8 0, .int .u8 0, .int .u8 0, .int .u8 0, .int .u8 0, .int .u8 0, .int .u8 0, .int .u8 0, .int .u8 0, .int .u8 0, .int .u8 0, .int .u8 0, .int .u8 0] 74)
  rw [show (w2.alloc (.cells #[.int .i64 0, .int .i64 0, .int .i64 0, .int .i64 0, .int .i64 0, .int .i64 0, .int .i64 0, .int .i64 0, .int .i64 0, .int .i64 0, .int .i64 0, .int .i64 0, .int .i64 0, .int .i64 0, .int .i64 0, .int .i64 0] 71)).heap.size = w2.heap.size + 1 by simp] at a4
  have ab := ((Below.refl w2.heap.size w2).alloc (Nat.le_refl _) (.cells #[.int .i64 0, .int .i64 0, .int .i64 0, .int .i64 0, .int .i64 0, .int .i64 0, .int .i64 0, .int .i64 0, .int .i64 0, .int .i64 0, .int .i64 0, .int .i64 0, .int .i64 0, .int .i64 0, .int .i64 0, .int .i64 0] 71)).alloc (by simp) (.cells #[.int .u8 0, .int .u8 0, .int .u8 0, .int .u8 0, .int .u8 0, .int .u8 0, .int .u8 0, .int .u8 0, .int .u8 0, .int .u8 0, .int .u8 0, .int .u8 0, .int .u8 0, .int .u8 0, .int .u8 0, .int .u8 0, .int .u8 0, .int .u8 0, .int .u8 0, .int .u8 0, .int .u8 0, .int .u8 0, .int .u8 0, .int .u8 0, .int .u8 0, .int .u8 0, .int .u8 0, .int .u8 0, .int .u8 0, .int .u8 0, .int .u8 0, .int .u8 0] 74)
  have A3 := TW.hide a3
  have A4 := TW.hide a4
  have AB := TW.hide ab
  have A5 : Hid ((((w2.alloc (.cells #[.int .i64 0, .int .i64 0, .int .i64 0, .int .i64 0, .int .i64 0, .int .i64 0, .int .i64 0, .int .i64 0, .int .i64 0, .int .i64 0, .int .i64 0, .int .i64 0, .int .i64 0, .int .i64 0, .int .i64 0, .int .i64 0] 71)).alloc (.cells #[.int .u8 0, .int .u8 0, .int .u8 0, .int .u8 0, .int .u8 0, .int .u8 0, .int .u8 0, .int .u8 0, .int .u8 0, .int .u8 0, .int .u8 0, .int .u8 0, .int .u8 0, .int .u8 0, .int .u8 0, .int .u8 0, .int .u8 0, .int .u8 0, .int .u8 0, .int .u8 0, .int .u8 0, .int .u8 0, .int .u8 0, .int .u8 0, .int .u8 0, .int .u8 0, .int .u8 0, .int .u8 0, .int .u8 0, .int .u8 0, .int .u8 0, .int .u8 0] 74)).setRow w2.heap.size (K .i64 (ord n))).heap[w2.heap.size + 1]? = some (.cells #[.int .u8 0, .int .u8 0, .int .u8 0, .int .u8 0, .int .u8 0, .int .u8 0, .int .u8 0, .int .u8 0, .int .u8 0, .int .u8 0, .int .u8 0, .int .u8 0, .int .u8 0, .int .u8 0, .int .u8 0, .int .u8 0, .int .u8 0, .int .u8 0, .int .u8 0, .int .u8 0, .int .u8 0, .int .u8 0, .int .u8 0, .int .u8 0, .int .u8 0, .int .u8 0, .int .u8 0, .int .u8 0, .int .u8 0, .int .u8 0, .int .u8 0, .int .u8 0] 74 (0, 0))) := by
    show _ = _
    rw [setRow_other _ _ _ _ (by omega)]; exact A4.out
  clear a3 a4 ab
  go_wp2_with (first | (refine wpList_store_row (by rfl) 71 _ _ (by rfl) w2.heap.size (K .i64 (ord n)) (by rfl) (by rfl) 71 _ A3.out HI.out HH.out (K_one _ _) ?_) | (refine wpList_store_row (by rfl) 74 _ _ (by rfl) (w2.heap.size + 1) (K .u8 plL) (by rfl) (by rfl) 74 _ A5.out (by kernel_rfl) (by kernel_rfl) (K_one _ _) ?_))
  have nO : ((((w2.alloc (.cells #[.int .i64 0, .int .i64 0, .int .i64 0, .int .i64 0, .int .i64 0, .int .i64 0, .int .i64 0, .int .i64 0, .int .i64 0, .int .i64 0, .int .i64 0, .int .i64 0, .int .i64 0, .int .i64 0, .int .i64 0, .int .i64 0] 71)).alloc (.cells #[.int .u8 0, .int .u8 0, .int .u8 0, .int .u8 0, .int .u8 0, .int .u8 0, .int .u8 0, .int .u8 0, .int .u8 0, .int .u8 0, .int .u8 0, .int .u8 0, .int .u8 0, .int .u8 0, .int .u8 0, .int .u8 0, .int .u8 0, .int .u8 0, .int .u8 0, .int .u8 0, .int .u8 0, .int .u8 0, .int .u8 0, .int .u8 0, .int .u8 0, .int .u8 0, .int .u8 0, .int .u8 0, .int .u8 0, .int .u8 0, .int .u8 0, .int .u8 0] 74)).setRow w2.heap.size (K .i64 (ord n))).setRow (w2.heap.size + 1) (K .u8 plL)).heap[w2.heap.size]? = some (.cells (K .i64 (ord n)) 71 (0, 0)) := by
    rw [setRow_other _ _ _ _ (by omega)]; exact setRow_heap _ _ _ _ _ _ A3.out
  have nQ := setRow_heap _ _ _ (K .u8 plL) _ _ A5.out
  have bO := below_setRow (cs := (K .u8 plL)) (below_setRow (cs := (K .i64 (ord n))) AB.out (g := w2.heap.size) (Nat.le_refl _)) (g := w2.heap.size + 1) (by omega)
  generalize (((w2.alloc (.cells #[.int .i64 0, .int .i64 0, .int .i64 0, .int .i64 0, .int .i64 0, .int .i64 0, .int .i64 0, .int .i64 0, .int .i64 0, .int .i64 0, .int .i64 0, .int .i64 0, .int .i64 0, .int .i64 0, .int .i64 0, .int .i64 0] 71)).alloc (.cells #[.int .u8 0, .int .u8 0, .int .u8 0, .int .u8 0, .int .u8 0, .int .u8 0, .int .u8 0, .int .u8 0, .int .u8 0, .int .u8 0, .int .u8 0, .int .u8 0, .int .u8 0, .int .u8 0, .int .u8 0, .int .u8 0, .int .u8 0, .int .u8 0, .int .u8 0, .int .u8 0, .int .u8 0, .int .u8 0, .int .u8 0, .int .u8 0, .int .u8 0, .int .u8 0, .int .u8 0, .int .u8 0, .int .u8 0, .int .u8 0, .int .u8 0, .int .u8 0] 74)).setRow w2.heap.size (K .i64 (ord n))).setRow (w2.heap.size + 1) (K .u8 plL) = X1 at nO nQ bO ⊢
  have M0 := TW.hide (blk_keep H0.out bO)
  have M1 := TW.hide (blk_keep H1.out bO)
  have M2 := TW.hide (blk_keep H2.out bO)
  have M3 := TW.hide nO
  have M4 := TW.hide nQ
  have MB : Hid (Below B w X1) := below_row HB.out bO (by omega)
  refine HK.out _ _ ?_
  clear HK KK bO nO nQ H0 H1 H2 HB A3 A4 A5 AB
  obtain ⟨q, hq⟩ : ∃ q, w2.heap.size + 1 = q := ⟨_, rfl⟩
  rw [hq] at M4
  simp only [hq]
  generalize w2.heap.size = o at *
  have hoq : o < q := by omega
  clear hq hW
  go_wp2
  go_loopw [9] (fun i wr => ∃ k : Nat, k ≤ 8 ∧ i = .int .i64 ((k : Int) - 1) ∧ wr.heap[B]? = some (.cells (K .u32 (backTo vs ms (ord n) (8 - k))) 34 (0, 0)) ∧ wr.heap[B + 1]? = some (.cells (K .u32 ms) 34 (0, 0)) ∧ wr.heap[B + 1 + 1]? = some (.cells (K .u32 (List.replicate 16 0)) 34 (0, 0)) ∧ wr.heap[o]? = some (.cells (K .i64 (ord n)) 71 (0, 0)) ∧ wr.heap[q]? = some (.cells (K .u8 plL) 74 (0, 0)) ∧ Below B w wr) (fun i _ => (intOf i + 1).toNat)
  case atStart => exact ⟨8, Nat.le_refl _, rfl, M0.out, M1.out, M2.out, M3.out, M4.out, MB.out⟩
  case round =>
    obtain ⟨k, hk, rfl, n0, n1, n2, n3, n4, hb⟩ := hrel
    clear M0 M1 M2 M3 M4 MB
    cases k with
    | succ k =>
      have hlt : k < 8 := by omega
      have ec : (((k + 1 : Nat) : Int) - 1) = (k : Int) := by omega
      rw [ec]
      obtain ⟨a0, a1, a2, a3, d1, d2, d3, d4, d5, d6, hrow⟩ := pl_all k hlt
      have hpr := Tab.mid (w := wr) (g := q) (k := .u8) (l := plL) (fun j v hv => by rw [Nat.zero_add]; exact blk_cell n4 (by simpa [K] using hv)) (k * 4) 4
      rw [hrow] at hpr
      simp only [List.map_cons, List.map_nil] at hpr
      clear hrow ec
      have hst : backTo vs ms (ord n) (8 - k) = U4 (backTo vs ms (ord n) (8 - (k + 1))) (pl k 0) (pl k 1) (pl k 2) (pl k 3) (ms.getD ((ord n).getD (2 * k) 0).toNat 0) (ms.getD ((ord n).getD (2 * k + 1) 0).toNat 0) := by
        rw [show 8 - k = (8 - (k + 1)) + 1 by omega, backTo, unstepL, show 7 - (8 - (k + 1)) = k by omega]
      have hfl : (backTo vs ms (ord n) (8 - (k + 1))).length = 16 := by rw [backTo_length, hv]
      have hfw : Ws (backTo vs ms (ord n) (8 - (k + 1))) := backTo_Ws ms (ord n) _ hV
      obtain ⟨hs0, hs0'⟩ := ord_bd n (2 * k) hr10 (by omega)
      obtain ⟨hs1, hs1'⟩ := ord_bd n (2 * k + 1) hr10 (by omega)
      have ho0 := blk_cellK n3 (i := 2 * k) (by rw [HL.out]; omega)
      have ho1 := blk_cellK n3 (i := 2 * k + 1) (by rw [HL.out]; omega)
      generalize (ord n).getD (2 * k) 0 = t0 at *
      generalize (ord n).getD (2 * k + 1) 0 = t1 at *
      obtain ⟨s0, rfl⟩ := Int.eq_ofNat_of_zero_le hs0
      obtain ⟨s1, rfl⟩ := Int.eq_ofNat_of_zero_le hs1
      rw [Int.toNat_natCast, Int.toNat_natCast] at hst
      have hm0 := blk_cellK n1 (i := s0) (by omega)
      have hm1 := blk_cellK n1 (i := s1) (by omega)
      have hwx := hM.get s0
      have hwy := hM.get s1
      generalize ms.getD s0 0 = x at *
      generalize ms.getD s1 0 = y at *
      generalize hU1 : backTo vs ms (ord n) (8 - k) = us' at *
      have HU1 := TW.hide hU1
      clear hU1
      generalize backTo vs ms (ord n) (8 - (k + 1)) = us at *
      generalize pl k 0 = p0 at *
      generalize pl k 1 = p1 at *
      generalize pl k 2 = p2 at *
      generalize pl k 3 = p3 at *
      have HST := TW.hide hst
      have HFL := TW.hide hfl
      have HFW := TW.hide hfw
      have HX := TW.hide hwx
      have HY := TW.hide hwy
      have N0 := TW.hide n0
      have N1 := TW.hide n1
      have N2 := TW.hide n2
      have N3 := TW.hide n3
      have N4 := TW.hide n4
      have NB := TW.hide hb
      have O0 := TW.hide ho0
      have O1 := TW.hide ho1
      have Q0 := TW.hide hm0
      have Q1 := TW.hide hm1
      have HPR := TW.hide hpr
      clear hst hfl hfw hwx hwy n0 n1 n2 n3 n4 hb ho0 ho1 hm0 hm1 hpr
      have hk0 : (0 : Int) ≤ (k : Int) := by omega
      have hk1 : (k : Int) < 8 := by omega
      go_wp2_with (refine wpList_load_mid (by rfl) 73 _ (by rfl) q (k * 4) (by rfl) [.int .u8 p0, .int .u8 p1, .int .u8 p2, .int .u8 p3] _ HPR.out Tryd.underlying73 rfl (by kernel_rfl) ?_)
      have bX := (Below.refl wr.heap.size wr).alloc (Nat.le_refl _) (.cells #[.int .u8 p0, .int .u8 p1, .int .u8 p2, .int .u8 p3]  73)
      have nX := heap_new wr (.cells #[.int .u8 p0, .int .u8 p1, .int .u8 p2, .int .u8 p3]  73)
      generalize wr.alloc (.cells #[.int .u8 p0, .int .u8 p1, .int .u8 p2, .int .u8 p3]  73) = X at bX nX ⊢
      generalize Value.agg #[.int .u8 p0, .int .u8 p1, .int .u8 p2, .int .u8 p3] = V20
      generalize hV15 : Value.agg (K .i64 (ord n)) = V15
      have HV15 := TW.hide hV15
      clear hV15
      generalize hV0 : Value.agg (K .u32 vs) = V0
      have HV0 := TW.hide hV0
      clear hV0
      generalize hV1 : Value.agg (K .u32 ms) = V1
      have HV1 := TW.hide hV1
      clear hV1
      have o0 := blk_keep N3.out bX
      have q0 : X.cell? ⟨o, 2 * k, none⟩ = some (.int .i64 (s0 : Int)) := by rw [bX.cell (blk_lt N3.out)]; exact O0.out
      have q1 : X.cell? ⟨o, 2 * k + 1, none⟩ = some (.int .i64 (s1 : Int)) := by rw [bX.cell (blk_lt N3.out)]; exact O1.out
      have q2 : X.cell? ⟨B + 1, s0, none⟩ = some (.int .u32 x) := by rw [bX.cell (blk_lt N1.out)]; exact Q0.out
      have q3 : X.cell? ⟨B + 1, s1, none⟩ = some (.int .u32 y) := by rw [bX.cell (blk_lt N1.out)]; exact Q1.out
      have i0 : (0 : Int) ≤ 2 * (k : Int) := by omega
      have i1 : 2 * (k : Int) < 16 := by omega
      have i2 : (0 : Int) ≤ 2 * (k : Int) + 1 := by omega
      have i3 : 2 * (k : Int) + 1 < 16 := by omega
      have BX := TW.hide bX
      have NX := TW.hide nX
      clear bX nX o0
      go_quiet (fail)
      go_wp2
      have hY : (X.drewN nq).heap = X.heap := rfl
      have nP := NX.out
      have nV := blk_keep N0.out BX.out
      have hc0 := blk_cellK nV (i := p0) (by rw [HFL.out]; exact a0)
      have hc1 := blk_cellK nV (i := p1) (by rw [HFL.out]; exact a1)
      have hc2 := blk_cellK nV (i := p2) (by rw [HFL.out]; exact a2)
      have hc3 := blk_cellK nV (i := p3) (by rw [HFL.out]; exact a3)
      have j0 : (p0 : Int) < 16 := by omega
      have j1 : (p1 : Int) < 16 := by omega
      have j2 : (p2 : Int) < 16 := by omega
      have j3 : (p3 : Int) < 16 := by omega
      have hmix := fun W => unmix (us.getD p0 0) (us.getD p1 0) (us.getD p2 0) (us.getD p3 0) x y W (HFW.out.get _) (HFW.out.get _) (HFW.out.get _) (HFW.out.get _) HX.out HY.out
      generalize hVa : us.getD p0 0 = va at *
      have HVA := TW.hide hVa
      clear hVa
      generalize hVb : us.getD p1 0 = vb at *
      have HVB := TW.hide hVb
      clear hVb
      generalize hVc : us.getD p2 0 = vc at *
      have HVC := TW.hide hVc
      clear hVc
      generalize hVd : us.getD p3 0 = vd at *
      have HVD := TW.hide hVd
      clear hVd
      have hst2 : us' = put4 us p0 p1 p2 p3 (unmixL va vb vc vd x y) := by rw [HST.out]; unfold U4; rw [← HVA.out, ← HVB.out, ← HVC.out, ← HVD.out]
      generalize unmixL va vb vc vd x y = q at *
      obtain ⟨r0, r1, r2, r3⟩ := q
      simp only [put4] at hmix hst2
      have HST2 := TW.hide hst2
      have HMIX := TW.hide hmix
      clear hst2
      have hT0 : ∀ Z : World, Z.heap = X.heap → Z.cell? ⟨wr.heap.size, 0, none⟩ = some (.int .u8 p0) ∧ Z.cell? ⟨wr.heap.size, 1, none⟩ = some (.int .u8 p1) ∧ Z.cell? ⟨wr.heap.size, 2, none⟩ = some (.int .u8 p2) ∧ Z.cell? ⟨wr.heap.size, 3, none⟩ = some (.int .u8 p3) := fun Z hZ => by
        simp only [World.cell?, hZ, nP]
        exact ⟨rfl, rfl, rfl, rfl⟩
      have hS0 : ∀ Z : World, Z.heap = X.heap → Z.cell? ⟨B, p0, none⟩ = some (.int .u32 va) ∧ Z.cell? ⟨B, p1, none⟩ = some (.int .u32 vb) ∧ Z.cell? ⟨B, p2, none⟩ = some (.int .u32 vc) ∧ Z.cell? ⟨B, p3, none⟩ = some (.int .u32 vd) := fun Z hZ => by
        simp only [World.cell?, hZ] at hc0 hc1 hc2 hc3 ⊢
        exact ⟨hc0, hc1, hc2, hc3⟩
      have HS0 := TW.hide hS0
      have HT0 := TW.hide hT0
      have NP := TW.hide nP
      have NV := TW.hide nV
      generalize hG : wr.heap.size = g at *
      have HG := TW.hide hG
      have hgB : o < g := by have := blk_lt N3.out; omega
      clear hmix q0 q1 q2 q3 i0 i1 i2 i3 hS0 hT0 hc0 hc1 hc2 hc3 nP nV hY hG
      refine wp_region_noPanic ?_
      refine RG.wp_region_L (fun Z => Z.cell? ⟨B, p0, none⟩ = some (.int .u32 va) ∧ Z.cell? ⟨B, p1, none⟩ = some (.int .u32 vb) ∧ Z.cell? ⟨B, p2, none⟩ = some (.int .u32 vc) ∧ Z.cell? ⟨B, p3, none⟩ = some (.int .u32 vd))
        (fun Z => Z.cell? ⟨g, 0, none⟩ = some (.int .u8 p0) ∧ Z.cell? ⟨g, 1, none⟩ = some (.int .u8 p1) ∧ Z.cell? ⟨g, 2, none⟩ = some (.int .u8 p2) ∧ Z.cell? ⟨g, 3, none⟩ = some (.int .u8 p3)) [33, 35, 37, 39] (by kernel_rfl) ?_
      refine RG.wpL_take (fuel := 14) (a' := ?A) [0, 1, 2, 3, 4, 5, 6, 7, 8, 9, 10, 11, 12, 13, 14, 15, 16, 17, 18, 19, 20, 21, 22, 23, 24, 25] (by kernel_rfl) (by kernel_rfl) (fun _ _ _ _ _ h => h) (HT0.out _ rfl) (fun _ => HS0.out _ rfl) ?r ?_
      case r =>
        iterate 11
          refine RG.RunsIf.weak (v := ?_) (by rfl) (by rfl) (fun Z hT => ?_) ?_
          rotate_left
          · go_simp
            rfl
          simp only [Act.put, List.setIfInBounds_toArray, List.set_cons_zero, List.set_cons_succ]
        iterate 1
          refine RG.RunsIf.strong (v := ?_) (by rfl) (by kernel_rfl) (by rfl) (fun Z hT hS => ?_) ?_
          rotate_left
          · go_simp
            rfl
          simp only [Act.put, List.setIfInBounds_toArray, List.set_cons_zero, List.set_cons_succ]
        iterate 3
          refine RG.RunsIf.weak (v := ?_) (by rfl) (by rfl) (fun Z hT => ?_) ?_
          rotate_left
          · go_simp
            rfl
          simp only [Act.put, List.setIfInBounds_toArray, List.set_cons_zero, List.set_cons_succ]
        iterate 1
          refine RG.RunsIf.strong (v := ?_) (by rfl) (by kernel_rfl) (by rfl) (fun Z hT hS => ?_) ?_
          rotate_left
          · go_simp
            rfl
          simp only [Act.put, List.setIfInBounds_toArray, List.set_cons_zero, List.set_cons_succ]
        iterate 3
          refine RG.RunsIf.weak (v := ?_) (by rfl) (by rfl) (fun Z hT => ?_) ?_
          rotate_left
          · go_simp
            rfl
          simp only [Act.put, List.setIfInBounds_toArray, List.set_cons_zero, List.set_cons_succ]
        iterate 1
          refine RG.RunsIf.strong (v := ?_) (by rfl) (by kernel_rfl) (by rfl) (fun Z hT hS => ?_) ?_
          rotate_left
          · go_simp
            rfl
          simp only [Act.put, List.setIfInBounds_toArray, List.set_cons_zero, List.set_cons_succ]
        iterate 3
          refine RG.RunsIf.weak (v := ?_) (by rfl) (by rfl) (fun Z hT => ?_) ?_
          rotate_left
          · go_simp
            rfl
          simp only [Act.put, List.setIfInBounds_toArray, List.set_cons_zero, List.set_cons_succ]
        iterate 1
          refine RG.RunsIf.strong (v := ?_) (by rfl) (by kernel_rfl) (by rfl) (fun Z hT hS => ?_) ?_
          rotate_left
          · go_simp
            rfl
          simp only [Act.put, List.setIfInBounds_toArray, List.set_cons_zero, List.set_cons_succ]
        iterate 2
          refine RG.RunsIf.weak (v := ?_) (by rfl) (by rfl) (fun Z hT => ?_) ?_
          rotate_left
          · go_simp
            rfl
          simp only [Act.put, List.setIfInBounds_toArray, List.set_cons_zero, List.set_cons_succ]
        exact RG.RunsIf.nil
      refine RG.wpL_step (i := 26) (by kernel_rfl) (by rfl) (by rfl) (fun K hK => ?_)
      have HK := TW.hide hK
      clear hK
      go_simp
      refine (HMIX.out _).mono ?_
      rintro e w' ⟨rfl, rfl⟩
      refine HK.out _ _ (HT0.out _ rfl) (fun _ => HS0.out _ rfl) ?_
      clear HK K
      refine RG.wpL_take (fuel := 7) (a' := ?A2) [27, 28, 29, 30, 31, 32] (by kernel_rfl) (by kernel_rfl) (fun _ _ _ _ _ h => h) (HT0.out _ rfl) (fun _ => HS0.out _ rfl) ?r2 ?_
      case r2 =>
        iterate 6
          refine RG.RunsIf.weak (v := ?_) (by rfl) (by rfl) (fun Z hT => ?_) ?_
          rotate_left
          · go_simp
            rfl
          simp only [Act.put, List.setIfInBounds_toArray, List.set_cons_zero, List.set_cons_succ]
        exact RG.RunsIf.nil
      have HTB : Hid (∀ Z : World, Z.heap[g]? = some (.cells #[.int .u8 p0, .int .u8 p1, .int .u8 p2, .int .u8 p3]  73 (0, 0)) → Z.cell? ⟨g, 0, none⟩ = some (.int .u8 p0) ∧ Z.cell? ⟨g, 1, none⟩ = some (.int .u8 p1) ∧ Z.cell? ⟨g, 2, none⟩ = some (.int .u8 p2) ∧ Z.cell? ⟨g, 3, none⟩ = some (.int .u8 p3)) :=
        fun Z h => ⟨blk_cell h (i := 0) rfl, blk_cell h (i := 1) rfl, blk_cell h (i := 2) rfl, blk_cell h (i := 3) rfl⟩
      have NB0 : Hid (Below B w (X.drewN (nq + 1))) := below_drewN (below_row NB.out (HG.out ▸ BX.out) (by have := HG.out; omega)) _
      have NV0 : Hid ((X.drewN (nq + 1)).heap[B]? = some (.cells (K .u32 us) 34 (0, 0))) := NV.out
      have NP0 : Hid ((X.drewN (nq + 1)).heap[g]? = some (.cells #[.int .u8 p0, .int .u8 p1, .int .u8 p2, .int .u8 p3]  73 (0, 0))) := NP.out
      have NA0 : Hid ((X.drewN (nq + 1)).heap[B + 1]? = some (.cells (K .u32 ms) 34 (0, 0))) := blk_drewN (blk_keep N1.out (HG.out ▸ BX.out)) _
      have NC0 : Hid ((X.drewN (nq + 1)).heap[B + 1 + 1]? = some (.cells (K .u32 (List.replicate 16 0)) 34 (0, 0))) := blk_drewN (blk_keep N2.out (HG.out ▸ BX.out)) _
      have ND0 : Hid ((X.drewN (nq + 1)).heap[o]? = some (.cells (K .i64 (ord n)) 71 (0, 0))) := blk_drewN (blk_keep N3.out (HG.out ▸ BX.out)) _
      have NE0 : Hid ((X.drewN (nq + 1)).heap[q]? = some (.cells (K .u8 plL) 74 (0, 0))) := blk_drewN (blk_keep N4.out (HG.out ▸ BX.out)) _
      clear HT0 HS0 N0 N1 N2 N3 N4 NB BX NX NP NV O0 O1 Q0 Q1
      generalize X.drewN (nq + 1) = Y0 at *
      have c0 := blk_cellK NV0.out (i := p0) (by (try simp only [List.length_set]); rw [HFL.out]; exact a0)
      have f0 := blk_frozen NV0.out (i := p0)
      refine RG.wpL_late (i := 33) (by kernel_rfl) (by rfl) (by rfl) (by kernel_rfl) (fun K hK => ?_)
      have HK := TW.hide hK
      clear hK
      go_simp
      have NV1 := TW.hide (blk_setK (i := p0) (x := r0) NV0.out)
      have NP1 := TW.hide (blk_other (p := B) (o := p0) (u := .int .u32 r0) NP0.out (by omega))
      have NB1 := TW.hide (NB0.out.setCell (p := ⟨B, p0, none⟩) (Nat.le_refl B) (.int .u32 r0))
      have NA1 := TW.hide (blk_other (p := B) (o := p0) (u := .int .u32 r0) NA0.out (by omega))
      have NC1 := TW.hide (blk_other (p := B) (o := p0) (u := .int .u32 r0) NC0.out (by omega))
      have ND1 := TW.hide (blk_other (p := B) (o := p0) (u := .int .u32 r0) ND0.out (by omega))
      have NE1 := TW.hide (blk_other (p := B) (o := p0) (u := .int .u32 r0) NE0.out (by omega))
      refine HK.out _ _ (HTB.out _ NP1.out) ?_
      clear HK K c0 f0 NV0 NP0 NB0 NA0 NC0 ND0 NE0
      generalize Y0.setCell ⟨B, p0, none⟩ (.int .u32 r0) = Y1 at *
      refine RG.wpL_late (i := 34) (by kernel_rfl) (by rfl) (by rfl) (by kernel_rfl) (fun K hK => ?_)
      have HK := TW.hide hK
      clear hK
      go_simp
      refine HK.out _ _ (HTB.out _ NP1.out) ?_
      clear HK K
      have c1 := blk_cellK NV1.out (i := p1) (by (try simp only [List.length_set]); rw [HFL.out]; exact a1)
      have f1 := blk_frozen NV1.out (i := p1)
      refine RG.wpL_late (i := 35) (by kernel_rfl) (by rfl) (by rfl) (by kernel_rfl) (fun K hK => ?_)
      have HK := TW.hide hK
      clear hK
      go_simp
      have NV2 := TW.hide (blk_setK (i := p1) (x := r1) NV1.out)
      have NP2 := TW.hide (blk_other (p := B) (o := p1) (u := .int .u32 r1) NP1.out (by omega))
      have NB2 := TW.hide (NB1.out.setCell (p := ⟨B, p1, none⟩) (Nat.le_refl B) (.int .u32 r1))
      have NA2 := TW.hide (blk_other (p := B) (o := p1) (u := .int .u32 r1) NA1.out (by omega))
      have NC2 := TW.hide (blk_other (p := B) (o := p1) (u := .int .u32 r1) NC1.out (by omega))
      have ND2 := TW.hide (blk_other (p := B) (o := p1) (u := .int .u32 r1) ND1.out (by omega))
      have NE2 := TW.hide (blk_other (p := B) (o := p1) (u := .int .u32 r1) NE1.out (by omega))
      refine HK.out _ _ (HTB.out _ NP2.out) ?_
      clear HK K c1 f1 NV1 NP1 NB1 NA1 NC1 ND1 NE1
      generalize Y1.setCell ⟨B, p1, none⟩ (.int .u32 r1) = Y2 at *
      refine RG.wpL_late (i := 36) (by kernel_rfl) (by rfl) (by rfl) (by kernel_rfl) (fun K hK => ?_)
      have HK := TW.hide hK
      clear hK
      go_simp
      refine HK.out _ _ (HTB.out _ NP2.out) ?_
      clear HK K
      have c2 := blk_cellK NV2.out (i := p2) (by (try simp only [List.length_set]); rw [HFL.out]; exact a2)
      have f2 := blk_frozen NV2.out (i := p2)
      refine RG.wpL_late (i := 37) (by kernel_rfl) (by rfl) (by rfl) (by kernel_rfl) (fun K hK => ?_)
      have HK := TW.hide hK
      clear hK
      go_simp
      have NV3 := TW.hide (blk_setK (i := p2) (x := r2) NV2.out)
      have NP3 := TW.hide (blk_other (p := B) (o := p2) (u := .int .u32 r2) NP2.out (by omega))
      have NB3 := TW.hide (NB2.out.setCell (p := ⟨B, p2, none⟩) (Nat.le_refl B) (.int .u32 r2))
      have NA3 := TW.hide (blk_other (p := B) (o := p2) (u := .int .u32 r2) NA2.out (by omega))
      have NC3 := TW.hide (blk_other (p := B) (o := p2) (u := .int .u32 r2) NC2.out (by omega))
      have ND3 := TW.hide (blk_other (p := B) (o := p2) (u := .int .u32 r2) ND2.out (by omega))
      have NE3 := TW.hide (blk_other (p := B) (o := p2) (u := .int .u32 r2) NE2.out (by omega))
      refine HK.out _ _ (HTB.out _ NP3.out) ?_
      clear HK K c2 f2 NV2 NP2 NB2 NA2 NC2 ND2 NE2
      generalize Y2.setCell ⟨B, p2, none⟩ (.int .u32 r2) = Y3 at *
      refine RG.wpL_late (i := 38) (by kernel_rfl) (by rfl) (by rfl) (by kernel_rfl) (fun K hK => ?_)
      have HK := TW.hide hK
      clear hK
      go_simp
      refine HK.out _ _ (HTB.out _ NP3.out) ?_
      clear HK K
      have c3 := blk_cellK NV3.out (i := p3) (by (try simp only [List.length_set]); rw [HFL.out]; exact a3)
      have f3 := blk_frozen NV3.out (i := p3)
      refine RG.wpL_late (i := 39) (by kernel_rfl) (by rfl) (by rfl) (by kernel_rfl) (fun K hK => ?_)
      have HK := TW.hide hK
      clear hK
      go_simp
      have NV4 := TW.hide (blk_setK (i := p3) (x := r3) NV3.out)
      have NP4 := TW.hide (blk_other (p := B) (o := p3) (u := .int .u32 r3) NP3.out (by omega))
      have NB4 := TW.hide (NB3.out.setCell (p := ⟨B, p3, none⟩) (Nat.le_refl B) (.int .u32 r3))
      have NA4 := TW.hide (blk_other (p := B) (o := p3) (u := .int .u32 r3) NA3.out (by omega))
      have NC4 := TW.hide (blk_other (p := B) (o := p3) (u := .int .u32 r3) NC3.out (by omega))
      have ND4 := TW.hide (blk_other (p := B) (o := p3) (u := .int .u32 r3) ND3.out (by omega))
      have NE4 := TW.hide (blk_other (p := B) (o := p3) (u := .int .u32 r3) NE3.out (by omega))
      refine HK.out _ _ (HTB.out _ NP4.out) ?_
      clear HK K c3 f3 NV3 NP3 NB3 NA3 NC3 ND3 NE3
      generalize Y3.setCell ⟨B, p3, none⟩ (.int .u32 r3) = Y4 at *
      refine RG.wpL_done (by kernel_rfl) ?_ _
      refine NoPanic.normal ?_
      go_wp2
      have e0 := HV0.out
      have e1 := HV1.out
      have e2 := HV15.out
      subst e0 e1 e2
      go_roundw
      case rel =>
        refine ⟨k, by omega, by go_num, ?_, NA4.out, NC4.out, ND4.out, NE4.out, NB4.out⟩
        rw [HU1.out, HST2.out]
        exact NV4.out
      case measure => simp [intOf]
    | zero =>
      have hfl : (backTo vs ms (ord n) 8).length = 16 := by rw [backTo_length, hv]
      have hi31 : (Tryd.prog.info? 34).map (·.size) = some (K .u32 (backTo vs ms (ord n) 8)).size := by rw [K_size, hfl]; kernel_rfl
      have HO : Hid ((K .u32 (List.replicate 16 0)).size = (K .u32 (backTo vs ms (ord n) 8)).size) := by show _ = _; rw [K_size, K_size, hfl]; rfl
      have HI := TW.hide hi31
      rw [show 8 - 0 = 8 by omega] at n0
      have N0 := TW.hide n0
      have N2 := TW.hide n2
      have NB := TW.hide hb
      clear n0 n1 n2 n3 n4 hb hi31 hfl
      generalize hU : backTo vs ms (ord n) 8 = us at *
      have HU := TW.hide hU
      clear hU
      go_wp2_with (first | (refine wpList_load_row (by rfl) 34 _ (by rfl) B (by rfl) 34 (K .u32 us) (0, 0) _ N0.out Tryd.underlying34 rfl HI.out ?_) | (refine wpList_store_row (by rfl) 34 _ _ (by rfl) (B + 1 + 1) (K .u32 us) (by rfl) (by rfl) 34 _ N2.out HI.out HO.out (K_one _ _) ?_))
      have e := HU.out
      subst e
      refine bodyPost_ret (v := .agg (K .u32 (backTo vs ms (ord n) 8))) (results_cell_row (P := Tryd.prog) Tryd.results29 _ _ (B + 1 + 1) 34 (K .u32 (backTo vs ms (ord n) 8)) (0, 0) _ (by rfl) (setRow_heap _ _ _ _ _ _ N2.out) Tryd.underlying34 rfl HI.out) rfl ?_
      exact ⟨rfl, below_setRow NB.out (by omega)⟩
end MX
end Go.Proofs.YtecepllidmkmhabDoor
