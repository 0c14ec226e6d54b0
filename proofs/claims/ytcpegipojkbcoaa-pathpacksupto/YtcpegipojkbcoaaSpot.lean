/-
  What Spot of the program gives.
-/
import Derived.Test.YtcpegipojkbcoaaLaidK
import Derived.Test.YtcpegipojkbcoaaSpotV
namespace Go.Proofs.Ytcpegipojkbcoaa
open Go.RowKit
set_option linter.unusedVariables false
set_option linter.unusedSimpArgs false
namespace LW
open Words
theorem new1 (w : World) (o0 o1 : Obj) : ((w.alloc o0).alloc o1).heap[w.heap.size + 1]? = some o1 := by
  have := heap_alloc_new (w.alloc o0) o1
  rw [World.size_alloc] at this
  exact this
theorem two_new (w : World) (z0 z1 c0 c1 : Array Value) (t0 t1 : TypeId) : ∃ Z, (((w.alloc (.cells z0 t0)).alloc (.cells z1 t1)).setRow w.heap.size c0).setRow (w.heap.size + 1) c1 = Z ∧ Z.heap[w.heap.size]? = some (.cells c0 t0 (0, 0)) ∧ Z.heap[w.heap.size + 1]? = some (.cells c1 t1 (0, 0)) ∧ Below w.heap.size w Z := by
  refine ⟨_, rfl, ?_, ?_, ?_⟩
  · exact blk_other' (setRow_heap _ _ _ _ _ _ (blk_alloc (heap_alloc_new w _))) (by omega)
  · exact setRow_heap _ _ _ _ _ _ (blk_other' (new1 w _ _) (by omega))
  · exact below_setRow (below_setRow (((Below.refl _ w).alloc (Nat.le_refl _) _).alloc (by simp) _) (Nat.le_refl _)) (by omega)
theorem sp0 : spC 0 0 0 0 false false = #[.int .i64 0, .int .u64 0, .int .u64 0, .int .u64 0, .bool false, .bool false] := rfl
set_option maxRecDepth 100000 in
set_option maxHeartbeats 2000000 in
theorem spotE (T : Tr) (hT : 0 ≤ T.lf ∧ T.lf < 4294967296) (n : Nat) (hn : n < 18446744073709551616) (r : Int) (at_ : Nat) (E : Int) (hE : E ≠ 0) (a b c : Nat) (d : Int) (L : Tr) (n' m' : Nat)
    (H : ∀ W, Calls Try.prog 48 #[.agg (trC T), .int .u64 n, .int .i64 r, .int .u64 at_] W fun e w' => e = .returned (.tuple #[.agg (lyC L n' m'), .agg (stC d a b c), .int .i64 E]) ∧ Below W.heap.size W w') (w : World) : Calls Try.prog 35 #[.agg (trC T), .int .u64 n, .int .i64 r, .int .u64 at_] w fun e w' => e = .returned (.tuple #[.agg (spC 0 0 0 0 false false), .int .i64 E]) ∧ Below w.heap.size w w' := by
  have HL := TW.hide H
  clear H
  unfold trC lyC stC at HL
  unfold trC
  rw [sp0]
  have n0 := heap_alloc_new w (.cells #[.int .i64 T.k, .int .i64 T.d, .int .i64 T.f, .int .i64 T.dp, .int .u32 T.lf, .int .i64 T.inn, .slice T.ka T.kl T.kc, .slice T.sa T.sl T.sc, .slice T.pa T.pl T.pc] 26)
  have hb0 := (Below.refl w.heap.size w).alloc (Nat.le_refl _) (.cells #[.int .i64 T.k, .int .i64 T.d, .int .i64 T.f, .int .i64 T.dp, .int .u32 T.lf, .int .i64 T.inn, .slice T.ka T.kl T.kc, .slice T.sa T.sl T.sc, .slice T.pa T.pl T.pc] 26)
  have n1 := heap_alloc_new (w.alloc (.cells #[.int .i64 T.k, .int .i64 T.d, .int .i64 T.f, .int .i64 T.dp, .int .u32 T.lf, .int .i64 T.inn, .slice T.ka T.kl T.kc, .slice T.sa T.sl T.sc, .slice T.pa T.pl T.pc] 26)) (.cells #[.int .i64 0, .int .u64 0, .int .u64 0, .int .u64 0, .bool false, .bool false] 50)
  rw [show (w.alloc (.cells #[.int .i64 T.k, .int .i64 T.d, .int .i64 T.f, .int .i64 T.dp, .int .u32 T.lf, .int .i64 T.inn, .slice T.ka T.kl T.kc, .slice T.sa T.sl T.sc, .slice T.pa T.pl T.pc] 26)).heap.size = w.heap.size + 1 by simp] at n1
  have n0 := blk_alloc (o' := .cells #[.int .i64 0, .int .u64 0, .int .u64 0, .int .u64 0, .bool false, .bool false] 50) n0
  have hb1 := hb0.alloc hb0.size (.cells #[.int .i64 0, .int .u64 0, .int .u64 0, .int .u64 0, .bool false, .bool false] 50)
  have N0 := TW.hide n0
  have N1 := TW.hide n1
  have B0 := TW.hide hb1
  clear n0 n1 hb0 hb1
  go_enter Try.func35, Try.ntmps35
  refine wp_seq_k fun K hK => ?_
  have HK := TW.hide hK
  clear hK
  go_wp2_with fail
  refine HK.out _ _ ?_
  clear HK K
  generalize (w.alloc _).alloc _ = X at *
  generalize hB : w.heap.size = B at *
  have HBB := TW.hide hB
  clear hB
  obtain ⟨c0, c1, c2, c3, c4, c5, c6, c7, c8⟩ := cells9 N0.out
  refine wp_seq_k fun K hK => ?_
  have HK := TW.hide hK
  clear hK
  go_wp2_with fail
  refine (HL.out _).mono ?_
  rintro e1 w1 ⟨rfl, hb⟩
  clear c0 c1 c2 c3 c4 c5 c6 c7 c8
  have N0 := TW.hide (blk_keep N0.out hb)
  have N1 := TW.hide (blk_keep N1.out hb)
  have B1 : Hid (Below B w w1) := B0.out.trans (hb.mono (by have := B0.out.size; have := HBB.out; omega))
  clear B0 hb
  obtain ⟨Z, hZ, G2, G3, hbz⟩ := two_new w1 #[.int .i64 0, .int .i64 0, .int .i64 0, .int .i64 0, .int .u32 0, .int .i64 0, .slice none 0 0, .slice none 0 0, .slice none 0 0, .int .u64 0, .int .u64 0] #[.int .i64 0, .int .u64 0, .int .u64 0, .int .u64 0] #[.int .i64 L.k, .int .i64 L.d, .int .i64 L.f, .int .i64 L.dp, .int .u32 L.lf, .int .i64 L.inn, .slice L.ka L.kl L.kc, .slice L.sa L.sl L.sc, .slice L.pa L.pl L.pc, .int .u64 n', .int .u64 m'] #[.int .i64 d, .int .u64 a, .int .u64 b, .int .u64 c] 98 100
  have HZ := TW.hide hZ
  clear hZ
  go_wp2_with (first | (refine wpList_store_row (by rfl) 98 _ _ (by rfl) (w1.heap.size) #[.int .i64 L.k, .int .i64 L.d, .int .i64 L.f, .int .i64 L.dp, .int .u32 L.lf, .int .i64 L.inn, .slice L.ka L.kl L.kc, .slice L.sa L.sl L.sc, .slice L.pa L.pl L.pc, .int .u64 n', .int .u64 m'] (by rfl) (by rfl) 98 _ (blk_alloc (heap_alloc_new w1 (.cells #[.int .i64 0, .int .i64 0, .int .i64 0, .int .i64 0, .int .u32 0, .int .i64 0, .slice none 0 0, .slice none 0 0, .slice none 0 0, .int .u64 0, .int .u64 0] 98))) (by kernel_rfl) (by rfl) (by simp [Value.oneCell']) ?_) | (refine wpList_store_row (by rfl) 100 _ _ (by rfl) (w1.heap.size + 1) #[.int .i64 d, .int .u64 a, .int .u64 b, .int .u64 c] (by rfl) (by rfl) 100 _ (blk_other' (new1 w1 _ _) (show w1.heap.size + 1 ≠ w1.heap.size by omega)) (by kernel_rfl) (by rfl) (by simp [Value.oneCell']) ?_))
  rw [HZ.out]
  clear HZ
  refine HK.out _ _ ?_
  clear HK K
  have N0 := TW.hide (blk_keep N0.out hbz)
  have N1 := TW.hide (blk_keep N1.out hbz)
  have B2 : Hid (Below B w Z) := B1.out.trans (hbz.mono (by have := B1.out.size; have := HBB.out; omega))
  clear B1 hbz
  have hE' : (E != 0) = true := by simp [hE]
  go_wp2_with (refine wpList_store_row (by rfl) 50 _ _ (by rfl) (B + 1) #[.int .i64 0, .int .u64 0, .int .u64 0, .int .u64 0, .bool false, .bool false] (by rfl) (by rfl) 50 _ N1.out (by kernel_rfl) (by rfl) (by simp [Value.oneCell']) ?_)
  refine bodyPost_ret (v := .tuple #[.agg #[.int .i64 0, .int .u64 0, .int .u64 0, .int .u64 0, .bool false, .bool false], .int .i64 E]) (results_row_tmp (P := Try.prog) Try.results35 _ _ (B + 1) 50 _ (0, 0) _ _ (by rfl) (by rfl) (setRow_heap _ _ _ _ _ _ N1.out) Try.underlying50 rfl (by kernel_rfl)) rfl ?_
  exact ⟨rfl, below_setRow B2.out (by omega)⟩
set_option maxRecDepth 100000 in
set_option maxHeartbeats 2000000 in
theorem spotG (T : Tr) (hT : 0 ≤ T.lf ∧ T.lf < 4294967296) (hf : 0 ≤ T.f ∧ T.f ≤ 255) (n m : Nat) (r : Int) (at_ q b fr tt : Nat) (la ro : Bool)
    (g1 : at_ * eaN T r q b = fr) (g2 : fr ≤ b) (g3 : b < 18446744073709551616) (g4 : fr + min (eaN T r q b) (b - fr) = tt) (g5 : tt ≤ b) (g6 : (decide (0 < r) && (q : Int) == 1) = ro) (g7 : decide (at_ + 1 = q) = la) (g8 : 0 < q) (g9 : q < 18446744073709551616)
    (H : ∀ W, Calls Try.prog 48 #[.agg (trC T), .int .u64 n, .int .i64 r, .int .u64 at_] W fun e w' => e = .returned (.tuple #[.agg (lyC T n m), .agg (stC r at_ q b), .int .i64 0]) ∧ Below W.heap.size W w') (w : World) : Calls Try.prog 35 #[.agg (trC T), .int .u64 n, .int .i64 r, .int .u64 at_] w fun e w' => e = .returned (.tuple #[.agg (spC r at_ fr tt la ro), .int .i64 0]) ∧ Below w.heap.size w w' := by
  have HL := TW.hide H
  clear H
  have HE := TW.hide (fun W => each T hT hf n m r at_ q b W)
  have HI := TW.hide (fun W => isRoot r at_ q b W)
  rw [g6] at HI
  have e1 : IntKind.u64.wrap ((at_ : Int) * (eaN T r q b : Nat)) = (fr : Int) := by rw [← Int.natCast_mul, g1, IntKind.wrap_u64]; omega
  have e2 : IntKind.u64.wrap ((b : Int) - (fr : Int)) = ((b - fr : Nat) : Int) := by rw [IntKind.wrap_u64]; omega
  have e4 : ((at_ : Int) == IntKind.u64.wrap ((q : Int) - 1)) = la := by
    rw [show IntKind.u64.wrap ((q : Int) - 1) = (q : Int) - 1 by rw [IntKind.wrap_u64]; omega, ← g7, Bool.eq_iff_iff]
    simp only [beq_iff_eq, decide_eq_true_eq]
    omega
  have G4 := TW.hide g4
  have G5 := TW.hide g5
  have G2 := TW.hide g2
  have G3 := TW.hide g3
  clear g1 g2 g3 g4 g5 g6 g7 g8 g9
  generalize eaN T r q b = ea at *
  generalize hd : b - fr = d at *
  have HD := TW.hide hd
  clear hd
  unfold trC lyC stC at *
  unfold spC
  have n0 := heap_alloc_new w (.cells #[.int .i64 T.k, .int .i64 T.d, .int .i64 T.f, .int .i64 T.dp, .int .u32 T.lf, .int .i64 T.inn, .slice T.ka T.kl T.kc, .slice T.sa T.sl T.sc, .slice T.pa T.pl T.pc] 26)
  have hb0 := (Below.refl w.heap.size w).alloc (Nat.le_refl _) (.cells #[.int .i64 T.k, .int .i64 T.d, .int .i64 T.f, .int .i64 T.dp, .int .u32 T.lf, .int .i64 T.inn, .slice T.ka T.kl T.kc, .slice T.sa T.sl T.sc, .slice T.pa T.pl T.pc] 26)
  have n1 := heap_alloc_new (w.alloc (.cells #[.int .i64 T.k, .int .i64 T.d, .int .i64 T.f, .int .i64 T.dp, .int .u32 T.lf, .int .i64 T.inn, .slice T.ka T.kl T.kc, .slice T.sa T.sl T.sc, .slice T.pa T.pl T.pc] 26)) (.cells #[.int .i64 0, .int .u64 0, .int .u64 0, .int .u64 0, .bool false, .bool false] 50)
  rw [show (w.alloc (.cells #[.int .i64 T.k, .int .i64 T.d, .int .i64 T.f, .int .i64 T.dp, .int .u32 T.lf, .int .i64 T.inn, .slice T.ka T.kl T.kc, .slice T.sa T.sl T.sc, .slice T.pa T.pl T.pc] 26)).heap.size = w.heap.size + 1 by simp] at n1
  have n0 := blk_alloc (o' := .cells #[.int .i64 0, .int .u64 0, .int .u64 0, .int .u64 0, .bool false, .bool false] 50) n0
  have hb1 := hb0.alloc hb0.size (.cells #[.int .i64 0, .int .u64 0, .int .u64 0, .int .u64 0, .bool false, .bool false] 50)
  have N0 := TW.hide n0
  have N1 := TW.hide n1
  have B0 := TW.hide hb1
  clear n0 n1 hb0 hb1
  go_enter Try.func35, Try.ntmps35
  refine wp_seq_k fun K hK => ?_
  have HK := TW.hide hK
  clear hK
  go_wp2_with fail
  refine HK.out _ _ ?_
  clear HK K
  generalize (w.alloc _).alloc _ = X at *
  generalize hB : w.heap.size = B at *
  have HBB := TW.hide hB
  clear hB
  obtain ⟨c0, c1, c2, c3, c4, c5, c6, c7, c8⟩ := cells9 N0.out
  refine wp_seq_k fun K hK => ?_
  have HK := TW.hide hK
  clear hK
  go_wp2_with fail
  refine (HL.out _).mono ?_
  rintro e1' w1 ⟨rfl, hb⟩
  clear c0 c1 c2 c3 c4 c5 c6 c7 c8
  have BG0 : Hid (B + 2 ≤ w1.heap.size) := by have := hb.size; have := blk_lt N1.out; show _ ≤ _; omega
  have N0 := TW.hide (blk_keep N0.out hb)
  have N1 := TW.hide (blk_keep N1.out hb)
  have B1 : Hid (Below B w w1) := B0.out.trans (hb.mono (by have := B0.out.size; have := HBB.out; omega))
  clear B0 hb
  obtain ⟨Z, hZ, K2, K3, hbz⟩ := two_new w1 #[.int .i64 0, .int .i64 0, .int .i64 0, .int .i64 0, .int .u32 0, .int .i64 0, .slice none 0 0, .slice none 0 0, .slice none 0 0, .int .u64 0, .int .u64 0] #[.int .i64 0, .int .u64 0, .int .u64 0, .int .u64 0] #[.int .i64 T.k, .int .i64 T.d, .int .i64 T.f, .int .i64 T.dp, .int .u32 T.lf, .int .i64 T.inn, .slice T.ka T.kl T.kc, .slice T.sa T.sl T.sc, .slice T.pa T.pl T.pc, .int .u64 n, .int .u64 m] #[.int .i64 r, .int .u64 at_, .int .u64 q, .int .u64 b] 98 100
  have HZ := TW.hide hZ
  clear hZ
  go_wp2_with (first | (refine wpList_store_row (by rfl) 98 _ _ (by rfl) (w1.heap.size) #[.int .i64 T.k, .int .i64 T.d, .int .i64 T.f, .int .i64 T.dp, .int .u32 T.lf, .int .i64 T.inn, .slice T.ka T.kl T.kc, .slice T.sa T.sl T.sc, .slice T.pa T.pl T.pc, .int .u64 n, .int .u64 m] (by rfl) (by rfl) 98 _ (blk_alloc (heap_alloc_new w1 (.cells #[.int .i64 0, .int .i64 0, .int .i64 0, .int .i64 0, .int .u32 0, .int .i64 0, .slice none 0 0, .slice none 0 0, .slice none 0 0, .int .u64 0, .int .u64 0] 98))) (by kernel_rfl) (by rfl) (by simp [Value.oneCell']) ?_) | (refine wpList_store_row (by rfl) 100 _ _ (by rfl) (w1.heap.size + 1) #[.int .i64 r, .int .u64 at_, .int .u64 q, .int .u64 b] (by rfl) (by rfl) 100 _ (blk_other' (new1 w1 _ _) (show w1.heap.size + 1 ≠ w1.heap.size by omega)) (by kernel_rfl) (by rfl) (by simp [Value.oneCell']) ?_))
  rw [HZ.out]
  clear HZ
  refine HK.out _ _ ?_
  clear HK K
  have K2 := TW.hide K2
  have K3 := TW.hide K3
  have N0 := TW.hide (blk_keep N0.out hbz)
  have N1 := TW.hide (blk_keep N1.out hbz)
  have B2 : Hid (Below B w Z) := B1.out.trans (hbz.mono (by have := B1.out.size; have := HBB.out; omega))
  clear B1 hbz
  have BG : Hid (B + 2 ≤ w1.heap.size) := by
    show _ ≤ _
    exact BG0.out
  clear BG0
  generalize w1.heap.size = g at *
  refine wp_seq_k fun K hK => ?_
  have HK := TW.hide hK
  clear hK
  go_wp2
  refine HK.out _ _ ?_
  clear HK K
  refine wp_seq_k fun K hK => ?_
  have HK := TW.hide hK
  clear hK
  obtain ⟨c0, c1, c2, c3, c4, c5, c6, c7, c8, c9, c10, _⟩ := cells11 K2.out
  obtain ⟨⟨d0, d1, d2, d3⟩, _⟩ := cells4 K3.out
  go_wp2_with fail
  refine (HE.out _).mono ?_
  rintro e2' w2 ⟨rfl, hb⟩
  clear c0 c1 c2 c3 c4 c5 c6 c7 c8 c9 c10 d0 d1 d2 d3
  have N0 := TW.hide (blk_keep N0.out hb)
  have N1 := TW.hide (blk_keep N1.out hb)
  have K2 := TW.hide (blk_keep K2.out hb)
  have K3 := TW.hide (blk_keep K3.out hb)
  have B3 : Hid (Below B w w2) := B2.out.trans (hb.mono (by have := B2.out.size; have := HBB.out; omega))
  clear B2 hb
  go_wp2
  refine HK.out _ _ ?_
  clear HK K
  refine wp_seq_k fun K hK => ?_
  have HK := TW.hide hK
  clear hK
  go_wp2
  refine HK.out _ _ ?_
  clear HK K
  refine wp_seq_k fun K hK => ?_
  have HK := TW.hide hK
  clear hK
  obtain ⟨⟨d0, d1, d2, d3⟩, _⟩ := cells4 K3.out
  have hmm : ∀ (P : Prop), ((d : Int) < (ea : Int) → IntKind.u64.wrap ((fr : Int) + (d : Int)) = (tt : Int) → P) → (¬ (d : Int) < (ea : Int) → IntKind.u64.wrap ((fr : Int) + (ea : Int)) = (tt : Int) → P) → P := by
    intro P p1 p2
    have k1 := G4.out
    have k2 := G5.out
    have k3 := G3.out
    have k4 := HD.out
    by_cases hc : (d : Int) < (ea : Int)
    · exact p1 hc (by rw [IntKind.wrap_u64]; omega)
    · exact p2 hc (by rw [IntKind.wrap_u64]; omega)
  refine hmm _ (fun hc hw => ?_) (fun hc hw => ?_)
  all_goals clear hmm
  · go_wp2
    refine HK.out _ _ ?_
    clear HK K
    refine wp_seq_k fun KQ hK => ?_
    have HQ := TW.hide hK
    clear hK
    clear d0 d1 d2 d3 hc hw e1 e2
    refine wp_region_noPanic ?_
    refine RG.wp_region_L (fun Z => True) (fun Z => Z.heap[g + 1]? = some (.cells #[.int .i64 r, .int .u64 at_, .int .u64 q, .int .u64 b] 100 (0, 0))) [] (by kernel_rfl) ?_
    refine RG.wpL_any fun Y hY => ?_
    have hH : Y.heap = w2.heap := by rw [hY]; rfl
    have HT : Hid (Y.heap[g + 1]? = some (.cells #[.int .i64 r, .int .u64 at_, .int .u64 q, .int .u64 b] 100 (0, 0))) := by rw [hH]; exact K3.out
    have M1 : Hid (Y.heap[B + 1]? = some (.cells #[.int .i64 0, .int .u64 0, .int .u64 0, .int .u64 0, .bool false, .bool false] 50 (0, 0))) := by rw [hH]; exact N1.out
    have BY : Hid (Below B w Y) := by rw [hY]; exact below_drewN B3.out 1
    clear hY hH N0 N1 K2 K3 B3
    refine RG.wpL_take (fuel := 4) (a' := ?Aax) [0, 1, 2, 3, 4, 5, 6, 7, 8, 9] (by kernel_rfl) (by kernel_rfl) (fun _ _ _ _ _ h => h) HT.out (fun _ => trivial) ?rax ?_
    case rax =>
      refine RG.RunsIf.weak (v := ?_) (by rfl) (by rfl) (fun Z hT => ?_) ?_
      rotate_left
      · go_simp
        rfl
      simp only [Act.put, List.setIfInBounds_toArray, List.set_cons_zero, List.set_cons_succ, List.getElem_toArray, List.getElem_cons_zero, List.getElem_cons_succ]
      refine RG.RunsIf.weak (v := ?_) (by rfl) (by rfl) (fun Z hT => ?_) ?_
      rotate_left
      · go_simp
        rfl
      simp only [Act.put, List.setIfInBounds_toArray, List.set_cons_zero, List.set_cons_succ, List.getElem_toArray, List.getElem_cons_zero, List.getElem_cons_succ]
      refine RG.RunsIf.weak (v := ?_) (by rfl) (by rfl) (fun Z hT => ?_) ?_
      rotate_left
      · go_simp
        rfl
      simp only [Act.put, List.setIfInBounds_toArray, List.set_cons_zero, List.set_cons_succ, List.getElem_toArray, List.getElem_cons_zero, List.getElem_cons_succ]
      refine RG.RunsIf.weak (v := ?_) (by rfl) (by rfl) (fun Z hT => ?_) ?_
      rotate_left
      · go_simp
        rfl
      simp only [Act.put, List.setIfInBounds_toArray, List.set_cons_zero, List.set_cons_succ, List.getElem_toArray, List.getElem_cons_zero, List.getElem_cons_succ]
      refine RG.RunsIf.weak (v := ?_) (by rfl) (by rfl) (fun Z hT => ?_) ?_
      rotate_left
      · go_simp
        rfl
      simp only [Act.put, List.setIfInBounds_toArray, List.set_cons_zero, List.set_cons_succ, List.getElem_toArray, List.getElem_cons_zero, List.getElem_cons_succ]
      refine RG.RunsIf.weak (v := ?_) (by rfl) (by rfl) (fun Z hT => ?_) ?_
      rotate_left
      · go_simp
        rfl
      simp only [Act.put, List.setIfInBounds_toArray, List.set_cons_zero, List.set_cons_succ, List.getElem_toArray, List.getElem_cons_zero, List.getElem_cons_succ]
      refine RG.RunsIf.weak (v := .int .u64 q) (by rfl) (by rfl) (fun Z hT => ?_) ?_
      · obtain ⟨⟨d0, d1, d2, d3⟩, _⟩ := cells4 hT
        go_simp
      simp only [Act.put, List.setIfInBounds_toArray, List.set_cons_zero, List.set_cons_succ, List.getElem_toArray, List.getElem_cons_zero, List.getElem_cons_succ]
      refine RG.RunsIf.weak (v := ?_) (by rfl) (by rfl) (fun Z hT => ?_) ?_
      rotate_left
      · go_simp
        rfl
      simp only [Act.put, List.setIfInBounds_toArray, List.set_cons_zero, List.set_cons_succ, List.getElem_toArray, List.getElem_cons_zero, List.getElem_cons_succ]
      refine RG.RunsIf.weak (v := .bool la) (by rfl) (by rfl) (fun Z hT => ?_) ?_
      · go_simp
        try rw [e4]
      simp only [Act.put, List.setIfInBounds_toArray, List.set_cons_zero, List.set_cons_succ, List.getElem_toArray, List.getElem_cons_zero, List.getElem_cons_succ]
      refine RG.RunsIf.weak (v := .agg #[.int .i64 r, .int .u64 at_, .int .u64 q, .int .u64 b]) (by rfl) (by rfl) (fun Z hT => exec_load_row' 100 _ (by rfl) (g + 1) (by rfl) 100 #[.int .i64 r, .int .u64 at_, .int .u64 q, .int .u64 b] (0, 0) _ hT Try.underlying100 rfl (by kernel_rfl)) ?_
      simp only [Act.put, List.setIfInBounds_toArray, List.set_cons_zero, List.set_cons_succ, List.getElem_toArray, List.getElem_cons_zero, List.getElem_cons_succ]
      exact RG.RunsIf.nil
    refine RG.wpL_step (i := 10) (by kernel_rfl) (by rfl) (by rfl) (fun KX hK => ?_)
    have HK := TW.hide hK
    clear hK
    go_simp
    refine (HI.out _).mono ?_
    rintro e3' w3 ⟨rfl, hb⟩
    have HT2 := TW.hide (blk_keep HT.out hb)
    have M2 := TW.hide (blk_keep M1.out hb)
    have BY2 : Hid (Below B w w3) := BY.out.trans (hb.mono (by have := BY.out.size; have := HBB.out; omega))
    refine HK.out _ _ HT2.out (fun _ => trivial) ?_
    clear HK KX HT M1 BY hb
    try simp only [Act.put, List.setIfInBounds_toArray, List.set_cons_zero, List.set_cons_succ, List.getElem_toArray, List.getElem_cons_zero, List.getElem_cons_succ]
    refine RG.wpL_take (fuel := 2) (a' := ?Abx) [11] (by kernel_rfl) (by kernel_rfl) (fun _ _ _ _ _ h => h) HT2.out (fun _ => trivial) ?rbx ?_
    case rbx =>
      refine RG.RunsIf.weak (v := .agg #[.int .i64 r, .int .u64 at_, .int .u64 fr, .int .u64 tt, .bool la, .bool ro]) (by rfl) (by rfl) (fun Z hT => ?_) ?_
      · go_simp
      simp only [Act.put, List.setIfInBounds_toArray, List.set_cons_zero, List.set_cons_succ, List.getElem_toArray, List.getElem_cons_zero, List.getElem_cons_succ]
      exact RG.RunsIf.nil
    refine RG.wpL_step (i := 12) (by kernel_rfl) (by rfl) (by rfl) (fun KX hK => ?_)
    have HK := TW.hide hK
    clear hK
    refine wp_store_row 50 _ _ (by rfl) (B + 1) #[.int .i64 r, .int .u64 at_, .int .u64 fr, .int .u64 tt, .bool la, .bool ro] (by rfl) (by rfl) 50 _ M2.out (by kernel_rfl) (by rfl) (by simp [Value.oneCell']) ?_
    try simp only [Act.put, List.setIfInBounds_toArray, List.set_cons_zero, List.set_cons_succ, List.getElem_toArray, List.getElem_cons_zero, List.getElem_cons_succ]
    have HT3 := TW.hide (blk_other' (cs := #[.int .i64 r, .int .u64 at_, .int .u64 fr, .int .u64 tt, .bool la, .bool ro]) HT2.out (show g + 1 ≠ B + 1 by have := BG.out; omega))
    have M3 := TW.hide (setRow_heap _ _ _ #[.int .i64 r, .int .u64 at_, .int .u64 fr, .int .u64 tt, .bool la, .bool ro] _ _ M2.out)
    have BY3 : Hid (Below B w (w3.setRow (B + 1) #[.int .i64 r, .int .u64 at_, .int .u64 fr, .int .u64 tt, .bool la, .bool ro])) := below_setRow BY2.out (by omega)
    refine HK.out _ _ HT3.out (fun _ => trivial) ?_
    clear HK KX HT2 M2 BY2
    generalize w3.setRow _ _ = Y3 at *
    refine RG.wpL_take (fuel := 0) (a' := ?Acx) [13] (by kernel_rfl) (by kernel_rfl) (fun _ _ _ _ _ h => h) HT3.out (fun _ => trivial) ?rcx ?_
    case rcx =>
      refine RG.RunsIf.weak (v := ?_) (by rfl) (by rfl) (fun Z hT => ?_) ?_
      rotate_left
      · go_simp
        rfl
      simp only [Act.put, List.setIfInBounds_toArray, List.set_cons_zero, List.set_cons_succ, List.getElem_toArray, List.getElem_cons_zero, List.getElem_cons_succ]
      exact RG.RunsIf.nil
    refine RG.wpL_done (by kernel_rfl) ?_ _
    refine NoPanic.normal ?_
    refine HQ.out _ _ ?_
    clear HQ KQ
    go_wp2
    refine bodyPost_ret (v := .tuple #[.agg #[.int .i64 r, .int .u64 at_, .int .u64 fr, .int .u64 tt, .bool la, .bool ro], .int .i64 0]) (results_row_tmp (P := Try.prog) Try.results35 _ _ (B + 1) 50 _ (0, 0) _ _ (by rfl) (by rfl) M3.out Try.underlying50 rfl (by kernel_rfl)) rfl ?_
    exact ⟨rfl, BY3.out⟩
  · go_wp2
    refine HK.out _ _ ?_
    clear HK K
    refine wp_seq_k fun KQ hK => ?_
    have HQ := TW.hide hK
    clear hK
    clear d0 d1 d2 d3 hc hw e1 e2
    refine wp_region_noPanic ?_
    refine RG.wp_region_L (fun Z => True) (fun Z => Z.heap[g + 1]? = some (.cells #[.int .i64 r, .int .u64 at_, .int .u64 q, .int .u64 b] 100 (0, 0))) [] (by kernel_rfl) ?_
    refine RG.wpL_any fun Y hY => ?_
    have hH : Y.heap = w2.heap := by rw [hY]; rfl
    have HT : Hid (Y.heap[g + 1]? = some (.cells #[.int .i64 r, .int .u64 at_, .int .u64 q, .int .u64 b] 100 (0, 0))) := by rw [hH]; exact K3.out
    have M1 : Hid (Y.heap[B + 1]? = some (.cells #[.int .i64 0, .int .u64 0, .int .u64 0, .int .u64 0, .bool false, .bool false] 50 (0, 0))) := by rw [hH]; exact N1.out
    have BY : Hid (Below B w Y) := by rw [hY]; exact below_drewN B3.out 1
    clear hY hH N0 N1 K2 K3 B3
    refine RG.wpL_take (fuel := 4) (a' := ?Aay) [0, 1, 2, 3, 4, 5, 6, 7, 8, 9] (by kernel_rfl) (by kernel_rfl) (fun _ _ _ _ _ h => h) HT.out (fun _ => trivial) ?ray ?_
    case ray =>
      refine RG.RunsIf.weak (v := ?_) (by rfl) (by rfl) (fun Z hT => ?_) ?_
      rotate_left
      · go_simp
        rfl
      simp only [Act.put, List.setIfInBounds_toArray, List.set_cons_zero, List.set_cons_succ, List.getElem_toArray, List.getElem_cons_zero, List.getElem_cons_succ]
      refine RG.RunsIf.weak (v := ?_) (by rfl) (by rfl) (fun Z hT => ?_) ?_
      rotate_left
      · go_simp
        rfl
      simp only [Act.put, List.setIfInBounds_toArray, List.set_cons_zero, List.set_cons_succ, List.getElem_toArray, List.getElem_cons_zero, List.getElem_cons_succ]
      refine RG.RunsIf.weak (v := ?_) (by rfl) (by rfl) (fun Z hT => ?_) ?_
      rotate_left
      · go_simp
        rfl
      simp only [Act.put, List.setIfInBounds_toArray, List.set_cons_zero, List.set_cons_succ, List.getElem_toArray, List.getElem_cons_zero, List.getElem_cons_succ]
      refine RG.RunsIf.weak (v := ?_) (by rfl) (by rfl) (fun Z hT => ?_) ?_
      rotate_left
      · go_simp
        rfl
      simp only [Act.put, List.setIfInBounds_toArray, List.set_cons_zero, List.set_cons_succ, List.getElem_toArray, List.getElem_cons_zero, List.getElem_cons_succ]
      refine RG.RunsIf.weak (v := ?_) (by rfl) (by rfl) (fun Z hT => ?_) ?_
      rotate_left
      · go_simp
        rfl
      simp only [Act.put, List.setIfInBounds_toArray, List.set_cons_zero, List.set_cons_succ, List.getElem_toArray, List.getElem_cons_zero, List.getElem_cons_succ]
      refine RG.RunsIf.weak (v := ?_) (by rfl) (by rfl) (fun Z hT => ?_) ?_
      rotate_left
      · go_simp
        rfl
      simp only [Act.put, List.setIfInBounds_toArray, List.set_cons_zero, List.set_cons_succ, List.getElem_toArray, List.getElem_cons_zero, List.getElem_cons_succ]
      refine RG.RunsIf.weak (v := .int .u64 q) (by rfl) (by rfl) (fun Z hT => ?_) ?_
      · obtain ⟨⟨d0, d1, d2, d3⟩, _⟩ := cells4 hT
        go_simp
      simp only [Act.put, List.setIfInBounds_toArray, List.set_cons_zero, List.set_cons_succ, List.getElem_toArray, List.getElem_cons_zero, List.getElem_cons_succ]
      refine RG.RunsIf.weak (v := ?_) (by rfl) (by rfl) (fun Z hT => ?_) ?_
      rotate_left
      · go_simp
        rfl
      simp only [Act.put, List.setIfInBounds_toArray, List.set_cons_zero, List.set_cons_succ, List.getElem_toArray, List.getElem_cons_zero, List.getElem_cons_succ]
      refine RG.RunsIf.weak (v := .bool la) (by rfl) (by rfl) (fun Z hT => ?_) ?_
      · go_simp
        try rw [e4]
      simp only [Act.put, List.setIfInBounds_toArray, List.set_cons_zero, List.set_cons_succ, List.getElem_toArray, List.getElem_cons_zero, List.getElem_cons_succ]
      refine RG.RunsIf.weak (v := .agg #[.int .i64 r, .int .u64 at_, .int .u64 q, .int .u64 b]) (by rfl) (by rfl) (fun Z hT => exec_load_row' 100 _ (by rfl) (g + 1) (by rfl) 100 #[.int .i64 r, .int .u64 at_, .int .u64 q, .int .u64 b] (0, 0) _ hT Try.underlying100 rfl (by kernel_rfl)) ?_
      simp only [Act.put, List.setIfInBounds_toArray, List.set_cons_zero, List.set_cons_succ, List.getElem_toArray, List.getElem_cons_zero, List.getElem_cons_succ]
      exact RG.RunsIf.nil
    refine RG.wpL_step (i := 10) (by kernel_rfl) (by rfl) (by rfl) (fun KX hK => ?_)
    have HK := TW.hide hK
    clear hK
    go_simp
    refine (HI.out _).mono ?_
    rintro e3' w3 ⟨rfl, hb⟩
    have HT2 := TW.hide (blk_keep HT.out hb)
    have M2 := TW.hide (blk_keep M1.out hb)
    have BY2 : Hid (Below B w w3) := BY.out.trans (hb.mono (by have := BY.out.size; have := HBB.out; omega))
    refine HK.out _ _ HT2.out (fun _ => trivial) ?_
    clear HK KX HT M1 BY hb
    try simp only [Act.put, List.setIfInBounds_toArray, List.set_cons_zero, List.set_cons_succ, List.getElem_toArray, List.getElem_cons_zero, List.getElem_cons_succ]
    refine RG.wpL_take (fuel := 2) (a' := ?Aby) [11] (by kernel_rfl) (by kernel_rfl) (fun _ _ _ _ _ h => h) HT2.out (fun _ => trivial) ?rby ?_
    case rby =>
      refine RG.RunsIf.weak (v := .agg #[.int .i64 r, .int .u64 at_, .int .u64 fr, .int .u64 tt, .bool la, .bool ro]) (by rfl) (by rfl) (fun Z hT => ?_) ?_
      · go_simp
      simp only [Act.put, List.setIfInBounds_toArray, List.set_cons_zero, List.set_cons_succ, List.getElem_toArray, List.getElem_cons_zero, List.getElem_cons_succ]
      exact RG.RunsIf.nil
    refine RG.wpL_step (i := 12) (by kernel_rfl) (by rfl) (by rfl) (fun KX hK => ?_)
    have HK := TW.hide hK
    clear hK
    refine wp_store_row 50 _ _ (by rfl) (B + 1) #[.int .i64 r, .int .u64 at_, .int .u64 fr, .int .u64 tt, .bool la, .bool ro] (by rfl) (by rfl) 50 _ M2.out (by kernel_rfl) (by rfl) (by simp [Value.oneCell']) ?_
    try simp only [Act.put, List.setIfInBounds_toArray, List.set_cons_zero, List.set_cons_succ, List.getElem_toArray, List.getElem_cons_zero, List.getElem_cons_succ]
    have HT3 := TW.hide (blk_other' (cs := #[.int .i64 r, .int .u64 at_, .int .u64 fr, .int .u64 tt, .bool la, .bool ro]) HT2.out (show g + 1 ≠ B + 1 by have := BG.out; omega))
    have M3 := TW.hide (setRow_heap _ _ _ #[.int .i64 r, .int .u64 at_, .int .u64 fr, .int .u64 tt, .bool la, .bool ro] _ _ M2.out)
    have BY3 : Hid (Below B w (w3.setRow (B + 1) #[.int .i64 r, .int .u64 at_, .int .u64 fr, .int .u64 tt, .bool la, .bool ro])) := below_setRow BY2.out (by omega)
    refine HK.out _ _ HT3.out (fun _ => trivial) ?_
    clear HK KX HT2 M2 BY2
    generalize w3.setRow _ _ = Y3 at *
    refine RG.wpL_take (fuel := 0) (a' := ?Acy) [13] (by kernel_rfl) (by kernel_rfl) (fun _ _ _ _ _ h => h) HT3.out (fun _ => trivial) ?rcy ?_
    case rcy =>
      refine RG.RunsIf.weak (v := ?_) (by rfl) (by rfl) (fun Z hT => ?_) ?_
      rotate_left
      · go_simp
        rfl
      simp only [Act.put, List.setIfInBounds_toArray, List.set_cons_zero, List.set_cons_succ, List.getElem_toArray, List.getElem_cons_zero, List.getElem_cons_succ]
      exact RG.RunsIf.nil
    refine RG.wpL_done (by kernel_rfl) ?_ _
    refine NoPanic.normal ?_
    refine HQ.out _ _ ?_
    clear HQ KQ
    go_wp2
    refine bodyPost_ret (v := .tuple #[.agg #[.int .i64 r, .int .u64 at_, .int .u64 fr, .int .u64 tt, .bool la, .bool ro], .int .i64 0]) (results_row_tmp (P := Try.prog) Try.results35 _ _ (B + 1) 50 _ (0, 0) _ _ (by rfl) (by rfl) M3.out Try.underlying50 rfl (by kernel_rfl)) rfl ?_
    exact ⟨rfl, BY3.out⟩
end LW
end Go.Proofs.Ytcpegipojkbcoaa
