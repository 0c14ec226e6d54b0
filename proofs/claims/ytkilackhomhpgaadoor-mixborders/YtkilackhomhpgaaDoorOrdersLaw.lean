/-
  What the law MixbOrders does: each order has each place once, and rows ten apart are the same.
-/
import Derived.Test.YtkilackhomhpgaaDoorTables
import Derived.Test.YtkilackhomhpgaaDoorEql
import Derived.Test.YtkilackhomhpgaaDoorOrder
namespace Go.Proofs.YtkilackhomhpgaaDoor
open Go.RowKit
set_option linter.unusedVariables false
set_option linter.unusedSimpArgs false
namespace MX
open Turn
attribute [local go_sem ↓] Go.wp_at_zero Go.wp_at_succ
/-- How often each place has come up among the first 'k'. -/
def seenTo (l : List Int) : Nat → List Int
  | 0 => List.replicate 16 0
  | k + 1 => (seenTo l k).set (l.getD k 0).toNat ((seenTo l k).getD (l.getD k 0).toNat 0 + 1)
theorem seenTo_length (l : List Int) (k : Nat) : (seenTo l k).length = 16 := by
  induction k with
  | zero => rfl
  | succ k ih => rw [seenTo, List.length_set, ih]
theorem seen_bd (r k : Nat) (hr : r < 10) (hk : k < 16) : 0 ≤ (seenTo (ord r) k).getD ((ord r).getD k 0).toNat 0 ∧ (seenTo (ord r) k).getD ((ord r).getD k 0).toNat 0 ≤ 16 := by
  have hall : (List.range 10).all (fun r => (List.range 16).all fun k => decide (0 ≤ (seenTo (ord r) k).getD ((ord r).getD k 0).toNat 0) && decide ((seenTo (ord r) k).getD ((ord r).getD k 0).toNat 0 ≤ 16)) = true := by decide +kernel
  have h1 := List.all_eq_true.1 hall r (by simpa using hr)
  have h2 := List.all_eq_true.1 h1 k (by simpa using hk)
  simpa using h2
theorem seen_all (r : Nat) (hr : r < 10) : seenTo (ord r) 16 = List.replicate 16 1 := by
  have hall : (List.range 10).all (fun r => decide (seenTo (ord r) 16 = List.replicate 16 1)) = true := by decide +kernel
  have h1 := List.all_eq_true.1 hall r (by simpa using hr)
  simpa using h1
set_option maxRecDepth 100000 in
set_option maxHeartbeats 4000000 in
theorem ordersWalk (n : Int) (w : World) (hi : Tab w 0 .u64 ivL) (ht : Tab w 1 .u8 ordL) (hn0 : -32768 ≤ n) (hn1 : n ≤ 32767) : Calls Tryd.prog 8 #[.int .i16 n] w fun e w' => e = .returned (.bool true) ∧ Below w.heap.size w w' := by
  have h1 := fun X (h : Tab X 1 .u8 ordL) => sigma n X h
  have h2 := fun X (h : Tab X 1 .u8 ordL) => sigma (n + 10) X h
  have h3 := fun X (h : Tab X 1 .u8 ordL) => sigma (n - 20) X h
  rw [show (n + 10) % 10 = n % 10 by omega] at h2
  rw [show (n - 20) % 10 = n % 10 by omega] at h3
  have hr10 : (n % 10).toNat < 10 := by omega
  generalize (n % 10).toNat = r at *
  have hlen := ord_length r hr10
  have i26 : (Tryd.prog.info? 26).map (·.size) = some (K .i64 (ord r)).size := by rw [K_size, hlen]; kernel_rfl
  have o26 : (K .i64 (List.replicate 16 0)).size = (K .i64 (ord r)).size := by rw [K_size, K_size, hlen]; rfl
  have q1 := fun W => eq26 W (ord r) (ord r) hlen hlen
  simp only [decide_true] at q1
  have hw0 : IntKind.i64.wrap n = n := by rw [IntKind.wrap_i64]; omega
  have hw1 : IntKind.i64.wrap (n + 10) = n + 10 := by rw [IntKind.wrap_i64]; omega
  have hw2 : IntKind.i64.wrap (n - 20) = n - 20 := by rw [IntKind.wrap_i64]; omega
  have H1 := TW.hide h1
  have H2 := TW.hide h2
  have H3 := TW.hide h3
  have TI := TW.hide hi
  have TO := TW.hide ht
  have HL := TW.hide hlen
  have I26 := TW.hide i26
  have O26 := TW.hide o26
  have Q1 := TW.hide q1
  clear h1 h2 h3 hi ht hlen i26 o26 q1
  go_enter Tryd.func8, Tryd.ntmps8
  refine wp_seq_k fun K hK => ?_
  have HK := TW.hide hK
  clear hK
  go_wp2
  refine HK.out _ _ ?_
  clear HK K
  refine wp_seq_k fun KK hK => ?_
  have HK := TW.hide hK
  clear hK
  go_wp2_with fail
  refine (H1.out _ TO.out).mono ?_
  rintro e w1 ⟨rfl, hb1⟩
  have B1 := TW.hide hb1
  clear hb1
  go_wp2_with (first | (refine wpList_store_row (by rfl) 26 _ _ (by rfl) w1.heap.size (K .i64 (ord r)) (by rfl) (by rfl) 26 _ (heap_new w1 _) I26.out O26.out (K_one _ _) ?_))
  have n1 := setRow_heap _ _ _ (K .i64 (ord r)) _ _ (heap_new w1 (.cells #[.int .i64 0, .int .i64 0, .int .i64 0, .int .i64 0, .int .i64 0, .int .i64 0, .int .i64 0, .int .i64 0, .int .i64 0, .int .i64 0, .int .i64 0, .int .i64 0, .int .i64 0, .int .i64 0, .int .i64 0, .int .i64 0] 26))
  have bx1 := below_setRow (cs := (K .i64 (ord r))) ((Below.refl w1.heap.size w1).alloc (Nat.le_refl _) (.cells #[.int .i64 0, .int .i64 0, .int .i64 0, .int .i64 0, .int .i64 0, .int .i64 0, .int .i64 0, .int .i64 0, .int .i64 0, .int .i64 0, .int .i64 0, .int .i64 0, .int .i64 0, .int .i64 0, .int .i64 0, .int .i64 0] 26)) (g := w1.heap.size) (Nat.le_refl _)
  generalize (w1.alloc (.cells #[.int .i64 0, .int .i64 0, .int .i64 0, .int .i64 0, .int .i64 0, .int .i64 0, .int .i64 0, .int .i64 0, .int .i64 0, .int .i64 0, .int .i64 0, .int .i64 0, .int .i64 0, .int .i64 0, .int .i64 0, .int .i64 0] 26)).setRow w1.heap.size (K .i64 (ord r)) = X1 at n1 bx1 ⊢
  refine HK.out _ _ ?_
  clear HK KK
  have BX1 : Hid (Below w.heap.size w X1) := below_row B1.out bx1 B1.out.size
  have hs1 := bx1.size
  generalize hg1 : w1.heap.size = g1 at *
  have N1 := TW.hide n1
  clear n1 bx1 hg1 B1
  have hlt1 : g1 < X1.heap.size := blk_lt N1.out
  refine wp_seq_k fun KK hK => ?_
  have HK := TW.hide hK
  clear hK
  go_wp2_with (refine wpList_store_row (by rfl) 26 _ _ (by rfl) X1.heap.size (K .i64 (List.replicate 16 0)) (by rfl) (by rfl) 26 _ (heap_new X1 _) (by kernel_rfl) (by kernel_rfl) (K_one _ _) ?_)
  have n2 := setRow_heap _ _ _ (K .i64 (List.replicate 16 0)) _ _ (heap_new X1 (.cells #[.int .i64 0, .int .i64 0, .int .i64 0, .int .i64 0, .int .i64 0, .int .i64 0, .int .i64 0, .int .i64 0, .int .i64 0, .int .i64 0, .int .i64 0, .int .i64 0, .int .i64 0, .int .i64 0, .int .i64 0, .int .i64 0] 26))
  have bx2 := below_setRow (cs := (K .i64 (List.replicate 16 0))) ((Below.refl X1.heap.size X1).alloc (Nat.le_refl _) (.cells #[.int .i64 0, .int .i64 0, .int .i64 0, .int .i64 0, .int .i64 0, .int .i64 0, .int .i64 0, .int .i64 0, .int .i64 0, .int .i64 0, .int .i64 0, .int .i64 0, .int .i64 0, .int .i64 0, .int .i64 0, .int .i64 0] 26)) (g := X1.heap.size) (Nat.le_refl _)
  generalize (X1.alloc (.cells #[.int .i64 0, .int .i64 0, .int .i64 0, .int .i64 0, .int .i64 0, .int .i64 0, .int .i64 0, .int .i64 0, .int .i64 0, .int .i64 0, .int .i64 0, .int .i64 0, .int .i64 0, .int .i64 0, .int .i64 0, .int .i64 0] 26)).setRow X1.heap.size (K .i64 (List.replicate 16 0)) = X2 at n2 bx2 ⊢
  refine HK.out _ _ ?_
  clear HK KK
  have M1 := TW.hide (blk_keep N1.out bx2)
  have M2 := TW.hide n2
  have MB : Hid (Below w.heap.size w X2) := below_row BX1.out bx2 BX1.out.size
  have hB1 := BX1.out.size
  have hlt0 : w.heap.size ≤ X1.heap.size := hB1
  generalize X1.heap.size = g2 at *
  clear n2 bx2 N1 BX1 hs1 hB1
  go_wp2
  go_loopw [5] (fun i wr => ∃ k : Nat, k ≤ 16 ∧ i = .int .i64 k ∧ wr.heap[g1]? = some (.cells (K .i64 (ord r)) 26 (0, 0)) ∧ wr.heap[g2]? = some (.cells (K .i64 (seenTo (ord r) k)) 26 (0, 0)) ∧ Below w.heap.size w wr) (fun i _ => 16 - (intOf i).toNat)
  case atStart => exact ⟨0, Nat.zero_le _, rfl, M1.out, M2.out, MB.out⟩
  case round =>
    obtain ⟨k, hk, rfl, n1, n2, hb⟩ := hrel
    clear M1 M2 MB X2 X1 w1
    have N1 := TW.hide n1
    have N2 := TW.hide n2
    have NB := TW.hide hb
    by_cases hlt : k < 16
    · have hbd := ord_bd r k hr10 hlt
      have hsb := seen_bd r k hr10 hlt
      have hst : seenTo (ord r) (k + 1) = (seenTo (ord r) k).set ((ord r).getD k 0).toNat ((seenTo (ord r) k).getD ((ord r).getD k 0).toNat 0 + 1) := rfl
      have c1 := blk_cellK n1 (i := k) (by rw [HL.out]; exact hlt)
      obtain ⟨p, hp⟩ := Int.eq_ofNat_of_zero_le hbd.1
      rw [hp] at hbd hsb hst c1
      rw [Int.toNat_natCast] at hsb hst
      have hp16 : p < 16 := by omega
      have c2 := blk_cellK n2 (i := p) (by rw [seenTo_length]; exact hp16)
      have f2 := blk_frozen n2 (i := p)
      generalize (seenTo (ord r) k).getD p 0 = y at *
      obtain ⟨hy0, hy1⟩ := hsb
      have HST := TW.hide hst
      clear n1 n2 hb hbd hst hp
      have j0 : (k : Int) < 16 := by omega
      have j1 : (p : Int) < 16 := by omega
      have b1 : decide ((p : Int) < 0) = false := by simp
      have b2 : decide ((15 : Int) < (p : Int)) = false := by simp; omega
      go_wp2
      go_roundw
      case rel =>
        refine ⟨k + 1, by omega, by go_num, blk_other N1.out (by omega), ?_, NB.out.setCell (by simpa using hlt0) _⟩
        rw [HST.out]
        exact blk_setK N2.out
      case measure => simp [intOf]; omega
    · obtain rfl : k = 16 := by omega
      rw [seen_all r hr10] at n2
      have N2' := TW.hide n2
      clear n1 n2 hb N2
      go_wp2
      go_loopw [6] (fun i wr => ∃ k : Nat, k ≤ 16 ∧ i = .int .i64 k ∧ wr.heap[g1]? = some (.cells (K .i64 (ord r)) 26 (0, 0)) ∧ wr.heap[g2]? = some (.cells (K .i64 (List.replicate 16 1)) 26 (0, 0)) ∧ Below w.heap.size w wr) (fun i _ => 16 - (intOf i).toNat)
      case atStart => exact ⟨0, Nat.zero_le _, rfl, N1.out, N2'.out, NB.out⟩
      case round =>
        obtain ⟨k, hk, rfl, n1, n2, hb⟩ := hrel
        clear N1 N2' NB
        have N1 := TW.hide n1
        have N2 := TW.hide n2
        have NB := TW.hide hb
        by_cases hlt : k < 16
        · have c2 := blk_cellK n2 (i := k) (by simpa using hlt)
          have e1 : (List.replicate 16 (1 : Int)).getD k 0 = 1 := by
            have : k = 0 ∨ k = 1 ∨ k = 2 ∨ k = 3 ∨ k = 4 ∨ k = 5 ∨ k = 6 ∨ k = 7 ∨ k = 8 ∨ k = 9 ∨ k = 10 ∨ k = 11 ∨ k = 12 ∨ k = 13 ∨ k = 14 ∨ k = 15 := by omega
            rcases this with rfl | rfl | rfl | rfl | rfl | rfl | rfl | rfl | rfl | rfl | rfl | rfl | rfl | rfl | rfl | rfl <;> rfl
          rw [e1] at c2
          clear n1 n2 hb e1
          have j0 : (k : Int) < 16 := by omega
          go_wp2
          go_roundw
          case rel => exact ⟨k + 1, by omega, by go_num, N1.out, N2.out, NB.out⟩
          case measure => simp [intOf]; omega
        · clear n1 n2 hb N2
          go_wp2
          have q1 := Q1.out
          refine wp_region_noPanic ?_
          refine RG.wp_region_L (fun _ => True) (fun Z' => Z'.heap[g1]? = some (.cells (K .i64 (ord r)) 26 (0, 0))) [] (by kernel_rfl) ?_
          refine RG.wpL_take (fuel := 14) (a' := ?A1) [0, 1, 2, 4] (by kernel_rfl) (by kernel_rfl) (fun _ _ _ _ _ h => h) N1.out (fun _ => trivial) ?r1 ?_
          case r1 =>
            iterate 3
              refine RG.RunsIf.weak (v := ?_) (by rfl) (by rfl) (fun Z' hT => ?_) ?_
              rotate_left
              · clear hT
                go_simp
                rfl
              simp only [List.getElem_toArray, List.getElem_cons_zero, List.getElem_cons_succ, Act.put, List.setIfInBounds_toArray, List.set_cons_zero, List.set_cons_succ]
            refine RG.RunsIf.weak (by rfl) (by rfl) (fun Z' hT => exec_load_row' 26 _ (by rfl) g1 (by rfl) 26 (K .i64 (ord r)) (0, 0) _ hT Tryd.underlying26 rfl I26.out) ?_
            simp only [List.getElem_toArray, List.getElem_cons_zero, List.getElem_cons_succ, Act.put, List.setIfInBounds_toArray, List.set_cons_zero, List.set_cons_succ]
            exact RG.RunsIf.nil
          refine RG.wpL_step (i := 3) (by kernel_rfl) (by rfl) (by rfl) (fun K hK => ?_)
          have HK := TW.hide hK
          clear hK
          go_simp
          refine (H2.out _ (TO.out.below (NB.out.drew))).mono ?_
          rintro e w2 ⟨rfl, hb2⟩
          have N1a := TW.hide (blk_keep (show (wr.drew).heap[g1]? = _ from N1.out) hb2)
          have NBa : Hid (Below w.heap.size w w2) := below_row NB.out.drew hb2 NB.out.drew.size
          clear hb2
          refine HK.out _ _ N1a.out (fun _ => trivial) ?_
          clear HK K
          refine RG.wpL_take (fuel := 7) (a' := ?A2) [5, 6, 7, 8, 9, 11] (by kernel_rfl) (by kernel_rfl) (fun _ _ _ _ _ h => h) N1a.out (fun _ => trivial) ?r2 ?_
          case r2 =>
            iterate 5
              refine RG.RunsIf.weak (v := ?_) (by rfl) (by rfl) (fun Z' hT => ?_) ?_
              rotate_left
              · clear hT
                go_simp
                rfl
              simp only [List.getElem_toArray, List.getElem_cons_zero, List.getElem_cons_succ, Act.put, List.setIfInBounds_toArray, List.set_cons_zero, List.set_cons_succ]
            refine RG.RunsIf.weak (by rfl) (by rfl) (fun Z' hT => exec_load_row' 26 _ (by rfl) g1 (by rfl) 26 (K .i64 (ord r)) (0, 0) _ hT Tryd.underlying26 rfl I26.out) ?_
            simp only [List.getElem_toArray, List.getElem_cons_zero, List.getElem_cons_succ, Act.put, List.setIfInBounds_toArray, List.set_cons_zero, List.set_cons_succ]
            exact RG.RunsIf.nil
          refine RG.wpL_stepw (i := 10) (by kernel_rfl) (by rfl) (by rfl) (fun K hK => ?_)
          have HK := TW.hide hK
          clear hK
          go_simp
          refine (H3.out _ (TO.out.below NBa.out)).mono ?_
          rintro e w3 ⟨rfl, hb3⟩
          have N1b := TW.hide (blk_keep N1a.out hb3)
          have NBb : Hid (Below w.heap.size w w3) := below_row NBa.out hb3 NBa.out.size
          clear hb3
          refine HK.out _ _ N1b.out (fun _ => trivial) ?_
          clear HK K
          refine RG.wpL_take (fuel := 3) (a' := ?A3) [12, 13, 14] (by kernel_rfl) (by kernel_rfl) (fun _ _ _ _ _ h => h) N1b.out (fun _ => trivial) ?r3 ?_
          case r3 =>
            iterate 3
              refine RG.RunsIf.weak (v := ?_) (by rfl) (by rfl) (fun Z' hT => ?_) ?_
              rotate_left
              · clear hT
                go_simp
                rfl
              simp only [List.getElem_toArray, List.getElem_cons_zero, List.getElem_cons_succ, Act.put, List.setIfInBounds_toArray, List.set_cons_zero, List.set_cons_succ]
            exact RG.RunsIf.nil
          refine RG.wpL_stepw (i := 15) (by kernel_rfl) (by rfl) (by rfl) (fun K hK => ?_)
          have HK := TW.hide hK
          clear hK
          go_simp
          refine (awake _ (TI.out.below NBb.out) (TO.out.below NBb.out)).mono ?_
          rintro e w4 ⟨rfl, hb4⟩
          have N1c := TW.hide (blk_keep N1b.out hb4)
          have NBc : Hid (Below w.heap.size w w4) := below_row NBb.out hb4 NBb.out.size
          clear hb4
          refine HK.out _ _ N1c.out (fun _ => trivial) ?_
          clear HK K
          refine RG.wpL_take (fuel := 0) (a' := ?A4) [16, 17] (by kernel_rfl) (by kernel_rfl) (fun _ _ _ _ _ h => h) N1c.out (fun _ => trivial) ?r4 ?_
          case r4 =>
            iterate 2
              refine RG.RunsIf.weak (v := ?_) (by rfl) (by rfl) (fun Z' hT => ?_) ?_
              rotate_left
              · clear hT
                go_simp
                rfl
              simp only [List.getElem_toArray, List.getElem_cons_zero, List.getElem_cons_succ, Act.put, List.setIfInBounds_toArray, List.set_cons_zero, List.set_cons_succ]
            exact RG.RunsIf.nil
          refine RG.wpL_done (by kernel_rfl) ?_ _
          refine NoPanic.normal ?_
          go_wp2
          go_ret
          exact ⟨rfl, NBc.out⟩
end MX
end Go.Proofs.YtkilackhomhpgaaDoor
