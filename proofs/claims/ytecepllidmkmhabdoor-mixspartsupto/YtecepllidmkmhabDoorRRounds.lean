/-
  What the calls Round and Unround of the document give, for every number of a round.
-/
import Derived.Test.YtecepllidmkmhabDoorFours
import Derived.Test.YtecepllidmkmhabDoorRG
namespace Go.Proofs.YtecepllidmkmhabDoor
open Go.RowKit
set_option linter.unusedVariables false
set_option linter.unusedSimpArgs false
namespace MX
open Turn
attribute [local go_sem ↓] Go.wp_at_zero Go.wp_at_succ
theorem exec_load_row {P : Program} {o : Oper} {a : Act} {w : World} (ty : TypeId) (x : Operand) (ho : o.op = .load ty x) (g : Nat) (hx : a.eval x = .pointer (some ⟨g, 0, none⟩)) (t : TypeId) (cs : Array Value) (fr : Nat × Nat) (d : TypeDesc)
    (hg : w.heap[g]? = some (.cells cs t fr)) (hu : P.underlying ty = some d) (hd : (match d with | .struct _ | .array _ _ => true | _ => false) = true) (hi : (P.info? ty).map (·.size) = some cs.size) :
    (execOp a.eval o).run P w = .ok (.value (.agg cs)) w := by
  unfold execOp
  simp only [ho, hx, Instr.loadAt, Instr.sureAddr, Sem.run_bind, Sem.run_pure, Result.andThen_ok, run_loadVar_row w g t ty cs fr d hg hu hd hi]
set_option maxRecDepth 100000 in
set_option maxHeartbeats 8000000 in
theorem rroundOk (vs ms : List Int) (n : Nat) (w : World) (hv : vs.length = 16) (hm : ms.length = 16) (hV : Ws vs) (hM : Ws ms) (hn : n < 10) :
    Calls Tryd.prog 38 #[.agg (K .u32 vs), .agg (K .u32 ms), .int .i64 n] w fun e w' => e = .returned (.tuple #[.agg (K .u32 (forthL vs ms n)), .int .i64 0]) ∧ Below w.heap.size w w' := by
  have hsg := fun (i : Nat) (hi : i < 16) X => rsigma (n : Int) i X hi
  have hr10 : n < 10 := hn
  unfold forthL
  rw [show n % 10 = n by omega]
  rw [show ((n : Int) % 10).toNat = n by omega] at hsg
  have hlen := ord_length n hr10
  have hb := ((((Below.refl w.heap.size w).alloc (Nat.le_refl _) (.cells (K .u32 vs) 34)).alloc (by simp; try omega) (.cells (K .u32 ms) 34)).alloc (by simp; try omega) (.cells (K .u32 (List.replicate 16 0)) 34))
  have n0 := (blk_alloc (o' := .cells (K .u32 (List.replicate 16 0)) 34) (blk_alloc (o' := .cells (K .u32 ms) 34) (heap_new w (.cells (K .u32 vs) 34))))
  have n1 := (blk_alloc (o' := .cells (K .u32 (List.replicate 16 0)) 34) (heap_new (w.alloc (.cells (K .u32 vs) 34)) (.cells (K .u32 ms) 34)))
  rw [show (w.alloc (.cells (K .u32 vs) 34)).heap.size = w.heap.size + 1 by simp] at n1
  have n2 := (heap_new ((w.alloc (.cells (K .u32 vs) 34)).alloc (.cells (K .u32 ms) 34)) (.cells (K .u32 (List.replicate 16 0)) 34))
  rw [show ((w.alloc (.cells (K .u32 vs) 34)).alloc (.cells (K .u32 ms) 34)).heap.size = w.heap.size + 1 + 1 by simp] at n2
  have HSG := TW.hide hsg
  have HL := TW.hide hlen
  clear hsg hlen
  have hn0 : decide ((n : Int) < 0) = false := by simp
  have hn1 : decide ((9 : Int) < (n : Int)) = false := by simp; omega
  go_enter Tryd.func38, Tryd.ntmps38
  refine wp_seq_k fun K hK => ?_
  have HK := TW.hide hK
  clear hK
  go_wp2
  refine HK.out _ _ ?_
  clear HK K
  change Code.wp _ _ _ _ (((w.alloc (.cells (K .u32 vs) 34)).alloc (.cells (K .u32 ms) 34)).alloc (.cells (K .u32 (List.replicate 16 0)) 34))
  generalize hWW : ((w.alloc (.cells (K .u32 vs) 34)).alloc (.cells (K .u32 ms) 34)).alloc (.cells (K .u32 (List.replicate 16 0)) 34) = W at hb n0 n1 n2 ⊢
  have hW : W.heap.size = w.heap.size + 1 + 1 + 1 := by rw [← hWW]; simp
  clear hWW
  generalize hB : w.heap.size = B at *
  have M0 := TW.hide n0
  have M1 := TW.hide n1
  have M2 := TW.hide n2
  have MB := TW.hide hb
  clear n0 n1 n2 hb
  clear hW hB
  go_wp2
  go_loopw [8] (fun i wr => ∃ k : Nat, k ≤ 8 ∧ i = .int .i64 k ∧ wr.heap[B]? = some (.cells (K .u32 (forthTo vs ms (ord n) k)) 34 (0, 0)) ∧ wr.heap[B + 1]? = some (.cells (K .u32 ms) 34 (0, 0)) ∧ wr.heap[B + 1 + 1]? = some (.cells (K .u32 (List.replicate 16 0)) 34 (0, 0)) ∧ Below B w wr) (fun i _ => 8 - (intOf i).toNat)
  case atStart => exact ⟨0, Nat.zero_le _, rfl, M0.out, M1.out, M2.out, MB.out⟩
  case round =>
    obtain ⟨k, hk, rfl, n0, n1, n2, hb⟩ := hrel
    clear M0 M1 M2 MB W
    by_cases hlt : k < 8
    · have hk0 : (0 : Int) ≤ (k : Int) := by omega
      obtain ⟨a0, a1, a2, a3, d1, d2, d3, d4, d5, d6, _⟩ := pl_all k hlt
      have hpl := fun X => rfour k X hlt
      have hst : forthTo vs ms (ord n) (k + 1) = G4 (forthTo vs ms (ord n) k) (pl k 0) (pl k 1) (pl k 2) (pl k 3) (ms.getD ((ord n).getD (2 * k) 0).toNat 0) (ms.getD ((ord n).getD (2 * k + 1) 0).toNat 0) := rfl
      have hfl : (forthTo vs ms (ord n) k).length = 16 := by rw [forthTo_length, hv]
      have hfw : Ws (forthTo vs ms (ord n) k) := forthTo_Ws ms (ord n) _ hV
      obtain ⟨hs0, hs0'⟩ := ord_bd n (2 * k) hr10 (by omega)
      obtain ⟨hs1, hs1'⟩ := ord_bd n (2 * k + 1) hr10 (by omega)
      have hg0 := HSG.out (2 * k) (by omega)
      have hg1 := HSG.out (2 * k + 1) (by omega)
      rw [show ((2 * k : Nat) : Int) = 2 * (k : Int) by omega] at hg0
      rw [show ((2 * k + 1 : Nat) : Int) = 2 * (k : Int) + 1 by omega] at hg1
      generalize (ord n).getD (2 * k) 0 = t0 at *
      generalize (ord n).getD (2 * k + 1) 0 = t1 at *
      obtain ⟨s0, rfl⟩ := Int.eq_ofNat_of_zero_le hs0
      obtain ⟨s1, rfl⟩ := Int.eq_ofNat_of_zero_le hs1
      rw [Int.toNat_natCast, Int.toNat_natCast] at hst
      have hm0 := fun (Z : World) (h : Z.heap[B + 1]? = some (.cells (K .u32 ms) 34 (0, 0))) => blk_cellK h (i := s0) (by omega)
      have hm1 := fun (Z : World) (h : Z.heap[B + 1]? = some (.cells (K .u32 ms) 34 (0, 0))) => blk_cellK h (i := s1) (by omega)
      have hgg := fun X => rgOk (forthTo vs ms (ord n) k) (pl k 0) (pl k 1) (pl k 2) (pl k 3) (ms.getD s0 0) (ms.getD s1 0) X hfl hfw (hM.get _) (hM.get _) a0 a1 a2 a3 d1 d2 d3 d4 d5 d6
      have hl2 : (forthTo vs ms (ord n) (k + 1)).length = 16 := by rw [forthTo_length, hv]
      have iu := info16 _ hfl
      have iu2 := info16 _ hl2
      have ou := size16 _ _ hfl hl2
      rw [← hst] at hgg
      generalize ms.getD s0 0 = x at *
      generalize ms.getD s1 0 = y at *
      generalize hU1 : forthTo vs ms (ord n) (k + 1) = us' at *
      generalize forthTo vs ms (ord n) k = us at *
      generalize pl k 0 = p0 at *
      generalize pl k 1 = p1 at *
      generalize pl k 2 = p2 at *
      generalize pl k 3 = p3 at *
      have HU1 := TW.hide hU1
      have L0 := TW.hide n0
      have L1 := TW.hide n1
      have L2 := TW.hide n2
      have LB := TW.hide hb
      have HG0 := TW.hide hg0
      have HG1 := TW.hide hg1
      have HM0 := TW.hide hm0
      have HM1 := TW.hide hm1
      have HGG := TW.hide hgg
      have HPL := TW.hide hpl
      have IU := TW.hide iu
      have IU2 := TW.hide iu2
      have OU := TW.hide ou
      clear hU1 n0 n1 n2 hb hg0 hg1 hm0 hm1 hgg hpl iu iu2 ou
      clear hst hfl hfw hl2
      go_wp2_with fail
      refine (HPL.out _).mono ?_
      rintro e w1 ⟨rfl, rfl⟩
      go_wp2
      have HSB : Hid (∀ Z : World, Z.heap[B]? = some (.cells (K .u32 us) 34 (0, 0)) → Z.heap[B + 1]? = some (.cells (K .u32 ms) 34 (0, 0)) → Z.heap[B]? = some (.cells (K .u32 us) 34 (0, 0)) ∧ Z.cell? ⟨B + 1, s0, none⟩ = some (.int .u32 x) ∧ Z.cell? ⟨B + 1, s1, none⟩ = some (.int .u32 y)) :=
        fun Z h0 h1 => ⟨h0, HM0.out Z h1, HM1.out Z h1⟩
      have hw1 : IntKind.i64.wrap (2 * (k : Int)) = 2 * (k : Int) := by rw [IntKind.wrap_i64]; omega
      have hw2 : IntKind.i64.wrap (2 * (k : Int) + 1) = 2 * (k : Int) + 1 := by rw [IntKind.wrap_i64]; omega
      have j0 : (s0 : Int) < 16 := by omega
      have j1 : (s1 : Int) < 16 := by omega
      refine wp_region_noPanic ?_
      refine RG.wp_region_L (fun Z => Z.heap[B]? = some (.cells (K .u32 us) 34 (0, 0)) ∧ Z.cell? ⟨B + 1, s0, none⟩ = some (.int .u32 x) ∧ Z.cell? ⟨B + 1, s1, none⟩ = some (.int .u32 y)) (fun _ => True) [22] (by kernel_rfl) ?_
      refine RG.wpL_take (fuel := 11) (a' := ?A1) [0, 1, 2, 3, 4, 5, 6, 7, 11, 12, 13, 14] (by kernel_rfl) (by kernel_rfl) (fun _ _ _ _ _ h => h) trivial (fun _ => HSB.out _ L0.out L1.out) ?r1 ?_
      case r1 =>
        refine RG.RunsIf.strong (by rfl) (by kernel_rfl) (by rfl) (fun Z hT hS => exec_load_row 34 _ (by rfl) B (by rfl) 34 (K .u32 us) (0, 0) _ hS.1 Tryd.underlying34 rfl IU.out) ?_
        simp only [Act.put, List.setIfInBounds_toArray, List.set_cons_zero, List.set_cons_succ]
        iterate 11
          refine RG.RunsIf.weak (v := ?_) (by rfl) (by rfl) (fun Z hT => ?_) ?_
          rotate_left
          · go_simp
            rfl
          simp only [Act.put, List.setIfInBounds_toArray, List.set_cons_zero, List.set_cons_succ]
        exact RG.RunsIf.nil
      refine RG.wpL_step (i := 8) (by kernel_rfl) (by rfl) (by rfl) (fun K hK => ?_)
      have HK := TW.hide hK
      clear hK
      go_simp
      refine (HG0.out _).mono ?_
      rintro e w' ⟨rfl, rfl⟩
      refine HK.out _ _ trivial (fun _ => HSB.out _ L0.out L1.out) ?_
      clear HK K
      refine RG.wpL_take (fuel := 8) (a' := ?A2) [9, 10] (by kernel_rfl) (by kernel_rfl) (fun _ _ _ _ _ h => h) trivial (fun _ => HSB.out _ L0.out L1.out) ?r2 ?_
      case r2 =>
        iterate 1
          refine RG.RunsIf.weak (v := ?_) (by rfl) (by rfl) (fun Z hT => ?_) ?_
          rotate_left
          · go_simp
            rfl
          simp only [Act.put, List.setIfInBounds_toArray, List.set_cons_zero, List.set_cons_succ]
        iterate 1
          refine RG.RunsIf.strong (v := ?_) (by rfl) (by kernel_rfl) (by rfl) (fun Z hT hS => ?_) ?_
          rotate_left
          · go_simp
            rfl
          simp only [Act.put, List.setIfInBounds_toArray, List.set_cons_zero, List.set_cons_succ]
        exact RG.RunsIf.nil
      refine RG.wpL_step (i := 15) (by kernel_rfl) (by rfl) (by rfl) (fun K hK => ?_)
      have HK := TW.hide hK
      clear hK
      go_simp
      refine (HG1.out _).mono ?_
      rintro e w' ⟨rfl, rfl⟩
      refine HK.out _ _ trivial (fun _ => HSB.out _ L0.out L1.out) ?_
      clear HK K
      refine RG.wpL_take (fuel := 5) (a' := ?A3) [16, 17] (by kernel_rfl) (by kernel_rfl) (fun _ _ _ _ _ h => h) trivial (fun _ => HSB.out _ L0.out L1.out) ?r3 ?_
      case r3 =>
        iterate 1
          refine RG.RunsIf.weak (v := ?_) (by rfl) (by rfl) (fun Z hT => ?_) ?_
          rotate_left
          · go_simp
            rfl
          simp only [Act.put, List.setIfInBounds_toArray, List.set_cons_zero, List.set_cons_succ]
        iterate 1
          refine RG.RunsIf.strong (v := ?_) (by rfl) (by kernel_rfl) (by rfl) (fun Z hT hS => ?_) ?_
          rotate_left
          · go_simp
            rfl
          simp only [Act.put, List.setIfInBounds_toArray, List.set_cons_zero, List.set_cons_succ]
        exact RG.RunsIf.nil
      refine RG.wpL_any fun Y hY => ?_
      have K0 : Hid (Y.heap[B]? = some (.cells (K .u32 us) 34 (0, 0))) := by show _ = _; rw [hY]; exact L0.out
      have K1 : Hid (Y.heap[B + 1]? = some (.cells (K .u32 ms) 34 (0, 0))) := by show _ = _; rw [hY]; exact L1.out
      have K2 : Hid (Y.heap[B + 1 + 1]? = some (.cells (K .u32 (List.replicate 16 0)) 34 (0, 0))) := by show _ = _; rw [hY]; exact L2.out
      have KB : Hid (Below B w Y) := by show Below B w Y; rw [hY]; exact LB.out.trans ⟨rfl, rfl, rfl, Nat.le_refl _, fun _ _ => rfl⟩
      clear hY L0 L1 L2 LB
      refine RG.wpL_step (i := 18) (by kernel_rfl) (by rfl) (by rfl) (fun K hK => ?_)
      have HK := TW.hide hK
      clear hK
      go_simp
      refine (HGG.out _).mono ?_
      rintro e w2 ⟨rfl, hb2⟩
      have L0 := TW.hide (blk_keep K0.out hb2)
      have L1 := TW.hide (blk_keep K1.out hb2)
      have L2 := TW.hide (blk_keep K2.out hb2)
      have LB : Hid (Below B w w2) := below_row KB.out hb2 (by have := blk_lt K0.out; omega)
      clear hb2 K0 K1 K2 KB
      refine HK.out _ _ trivial (fun _ => HSB.out _ L0.out L1.out) ?_
      clear HK K
      refine RG.wpL_take (fuel := 1) (a' := ?A4) [19, 20, 21] (by kernel_rfl) (by kernel_rfl) (fun _ _ _ _ _ h => h) trivial (fun _ => HSB.out _ L0.out L1.out) ?r4 ?_
      case r4 =>
        iterate 3
          refine RG.RunsIf.weak (v := ?_) (by rfl) (by rfl) (fun Z hT => ?_) ?_
          rotate_left
          · go_simp
            rfl
          simp only [Act.put, List.setIfInBounds_toArray, List.set_cons_zero, List.set_cons_succ]
        exact RG.RunsIf.nil
      refine RG.wpL_late (i := 22) (by kernel_rfl) (by rfl) (by rfl) (by kernel_rfl) (fun KK hK => ?_)
      have HK := TW.hide hK
      clear hK
      refine wp_store_row 34 _ _ (by rfl) B (K .u32 us') (by rfl) (by rfl) 34 _ L0.out IU2.out OU.out (K_one _ _) ?_
      have P0 := TW.hide (setRow_heap _ _ _ (K .u32 us') _ _ L0.out)
      have P1 : Hid ((w2.setRow B (K .u32 us')).heap[B + 1]? = some (.cells (K .u32 ms) 34 (0, 0))) := by show _ = _; rw [setRow_other _ _ _ _ (by omega)]; exact L1.out
      have P2 : Hid ((w2.setRow B (K .u32 us')).heap[B + 1 + 1]? = some (.cells (K .u32 (List.replicate 16 0)) 34 (0, 0))) := by show _ = _; rw [setRow_other _ _ _ _ (by omega)]; exact L2.out
      have PB := TW.hide (below_setRow (cs := K .u32 us') LB.out (g := B) (Nat.le_refl B))
      refine HK.out _ _ trivial ?_
      clear HK KK L0 L1 L2 LB
      generalize w2.setRow B (K .u32 us') = Y at *
      simp only [Act.put, List.setIfInBounds_toArray, List.set_cons_zero, List.set_cons_succ]
      refine RG.wpL_done (by kernel_rfl) ?_ _
      refine NoPanic.normal ?_
      go_wp2
      go_roundw
      case rel =>
        refine ⟨k + 1, by omega, by go_num, ?_, P1.out, P2.out, PB.out⟩
        rw [HU1.out]
        exact P0.out
      case measure => simp [intOf]; omega
    · obtain rfl : k = 8 := by omega
      have hfl : (forthTo vs ms (ord n) 8).length = 16 := by rw [forthTo_length, hv]
      have iu := info16 _ hfl
      have ou := size16 (List.replicate 16 0) _ rfl hfl
      have N0 := TW.hide n0
      have N2 := TW.hide n2
      have NB := TW.hide hb
      have IU := TW.hide iu
      have OU := TW.hide ou
      clear n0 n2 hb iu ou
      clear n1 hfl
      generalize hU : forthTo vs ms (ord n) 8 = us at *
      have HU := TW.hide hU
      clear hU
      go_wp2_with (first | (refine wpList_load_row (by rfl) 34 _ (by rfl) (B) (by rfl) 34 (K .u32 us) (0, 0) _ N0.out Tryd.underlying34 rfl IU.out ?_) | (refine wpList_store_row (by rfl) 34 _ _ (by rfl) (B + 1 + 1) (K .u32 us) (by rfl) (by rfl) 34 _ N2.out IU.out OU.out (K_one _ _) ?_))
      have e := HU.out
      subst e
      refine bodyPost_ret (v := .tuple #[.agg (K .u32 (forthTo vs ms (ord n) 8)), .int .i64 0]) (results_row_tmp (P := Tryd.prog) Tryd.results38 _ _ (B + 1 + 1) 34 _ (0, 0) _ _ (by rfl) (by rfl) (setRow_heap _ _ _ _ _ _ N2.out) Tryd.underlying34 rfl IU.out) rfl ?_
      exact ⟨rfl, below_setRow NB.out (by omega)⟩
set_option maxRecDepth 100000 in
set_option maxHeartbeats 1000000 in
theorem rroundNo (vs ms : List Int) (n : Int) (w : World) (hn : n < 0 ∨ 10 ≤ n) :
    Calls Tryd.prog 38 #[.agg (K .u32 vs), .agg (K .u32 ms), .int .i64 n] w fun e w' => e = .returned (.tuple #[.agg (K .u32 (List.replicate 16 0)), .int .i64 1]) ∧ Below w.heap.size w w' := by
  have hb := ((((Below.refl w.heap.size w).alloc (Nat.le_refl _) (.cells (K .u32 vs) 34)).alloc (by simp; try omega) (.cells (K .u32 ms) 34)).alloc (by simp; try omega) (.cells (K .u32 (List.replicate 16 0)) 34))
  have n0 := (blk_alloc (o' := .cells (K .u32 (List.replicate 16 0)) 34) (blk_alloc (o' := .cells (K .u32 ms) 34) (heap_new w (.cells (K .u32 vs) 34))))
  have n1 := (blk_alloc (o' := .cells (K .u32 (List.replicate 16 0)) 34) (heap_new (w.alloc (.cells (K .u32 vs) 34)) (.cells (K .u32 ms) 34)))
  rw [show (w.alloc (.cells (K .u32 vs) 34)).heap.size = w.heap.size + 1 by simp] at n1
  have n2 := (heap_new ((w.alloc (.cells (K .u32 vs) 34)).alloc (.cells (K .u32 ms) 34)) (.cells (K .u32 (List.replicate 16 0)) 34))
  rw [show ((w.alloc (.cells (K .u32 vs) 34)).alloc (.cells (K .u32 ms) 34)).heap.size = w.heap.size + 1 + 1 by simp] at n2
  go_enter Tryd.func38, Tryd.ntmps38
  refine wp_seq_k fun K hK => ?_
  have HK := TW.hide hK
  clear hK
  go_wp2
  refine HK.out _ _ ?_
  clear HK K
  change Code.wp _ _ _ _ (((w.alloc (.cells (K .u32 vs) 34)).alloc (.cells (K .u32 ms) 34)).alloc (.cells (K .u32 (List.replicate 16 0)) 34))
  generalize hWW : ((w.alloc (.cells (K .u32 vs) 34)).alloc (.cells (K .u32 ms) 34)).alloc (.cells (K .u32 (List.replicate 16 0)) 34) = W at hb n0 n1 n2 ⊢
  have hW : W.heap.size = w.heap.size + 1 + 1 + 1 := by rw [← hWW]; simp
  clear hWW
  generalize hB : w.heap.size = B at *
  have iu := info16 (List.replicate 16 0) rfl
  have IU := TW.hide iu
  have N2 := TW.hide n2
  have HB := TW.hide hb
  clear iu n2 hb
  clear n0 n1 hW hB
  obtain ⟨e1, h1⟩ : ∃ e, decide (n < 0) = e := ⟨_, rfl⟩
  obtain ⟨e2, h2⟩ : ∃ e, decide (9 < n) = e := ⟨_, rfl⟩
  have HE : Hid (e1 = true ∨ e2 = true) := by show _ ∨ _; rw [← h1, ← h2]; simp; omega
  clear hn
  go_wp2_with (refine wpList_store_row (by rfl) 34 _ _ (by rfl) (B + 1 + 1) (K .u32 (List.replicate 16 0)) (by rfl) (by rfl) 34 _ N2.out IU.out rfl (K_one _ _) ?_)
  all_goals first | (refine bodyPost_ret (v := .tuple #[.agg (K .u32 (List.replicate 16 0)), .int .i64 1]) (results_row_tmp (P := Tryd.prog) Tryd.results38 _ _ (B + 1 + 1) 34 _ (0, 0) _ _ (by rfl) (by rfl) (setRow_heap _ _ _ _ _ _ N2.out) Tryd.underlying34 rfl IU.out) rfl ?_; exact ⟨rfl, below_setRow HB.out (by omega)⟩) | (exfalso; have hf := HE.out; simp_all; done)
end MX
end Go.Proofs.YtecepllidmkmhabDoor
