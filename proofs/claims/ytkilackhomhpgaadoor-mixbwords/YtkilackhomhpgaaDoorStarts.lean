/-
  What the calls Start (the program, the document) give, for all bytes.
-/
import Derived.Test.YtkilackhomhpgaaDoorWordsB
namespace Go.Proofs.YtkilackhomhpgaaDoor
open Go.RowKit
set_option linter.unusedVariables false
set_option linter.unusedSimpArgs false
namespace MX
open Turn
attribute [local go_sem ↓] Go.wp_at_zero Go.wp_at_succ
open Words
/-- The state that a block of parameters begins with. -/
def startL (zs : List Int) : List Int := (List.range 8).map fun i => xo (ivL.getD i 0) (wd zs i)
theorem startL_length (zs : List Int) : (startL zs).length = 8 := by simp [startL]
theorem startL_get (zs : List Int) (i : Nat) (h : i < 8) : (startL zs).getD i 0 = xo (ivL.getD i 0) (wd zs i) := by
  simp [startL, List.getD_eq_getElem?_getD, h]
theorem info23 (l : List Int) (h : l.length = 8) : (Tryd.prog.info? 23).map (·.size) = some (K .u64 l).size := by rw [K_size, h]; kernel_rfl
theorem size8 (l l' : List Int) (h : l.length = 8) (h' : l'.length = 8) : (K .u64 l).size = (K .u64 l').size := by rw [K_size, K_size, h, h']
theorem ivL_length : ivL.length = 8 := rfl
/-- The first 'k' of one list, the others of another. -/
def part2 (l m : List Int) (k : Nat) : List Int := l.take k ++ m.drop k
theorem part2_length (l m : List Int) (n k : Nat) (h : l.length = n) (h' : m.length = n) (hk : k ≤ n) : (part2 l m k).length = n := by simp [part2]; omega
theorem part2_get (l m : List Int) (n k : Nat) (h : l.length = n) (h' : m.length = n) (hk : k < n) : (part2 l m k).getD k 0 = m.getD k 0 := by
  unfold part2
  rw [List.getD_eq_getElem?_getD, List.getElem?_append_right (by simp; omega), List.length_take, show k - min k l.length = 0 by omega, List.getElem?_drop, Nat.add_zero, List.getD_eq_getElem?_getD]
theorem part2_set (l m : List Int) (n k : Nat) (h : l.length = n) (h' : m.length = n) (hk : k < n) : (part2 l m k).set k (l.getD k 0) = part2 l m (k + 1) := by
  unfold part2
  rw [List.set_append_right _ _ (by simp; omega), LW.take_snoc l k (by omega), List.length_take, show k - min k l.length = 0 by omega, List.drop_eq_getElem_cons (by omega : k < m.length), List.set_cons_zero, List.append_assoc]
  rfl
theorem part2_full (l m : List Int) (n : Nat) (h : l.length = n) (h' : m.length = n) : part2 l m n = l := by simp [part2, ← h]; omega
set_option maxRecDepth 100000 in
set_option maxHeartbeats 2000000 in
theorem startOk (a : Option Addr) (cap : Nat) (zs : List Int) (w : World) (hz : Byt zs) (hr : LW.Row w a zs) (hl : zs.length = 64) (ti : Tab w 0 .u64 ivL) :
    Calls Tryd.prog 15 #[.slice a 64 cap] w fun e w' => e = .returned (.tuple #[.agg (K .u64 (startL zs)), .int .i64 0]) ∧ Below w.heap.size w w' := by
  have hld : ∀ (i : Nat) (X : World), i < 8 → LW.Row X a zs → Calls Tryd.prog 30 #[.slice a 64 cap, .int .i64 (8 * (i : Int))] X fun e w' => e = .returned (.tuple #[.int .u64 (wd zs i), .int .i64 0]) ∧ X = w' := fun i X hi h => by
    have h1 := LW.load64 a cap zs (8 * (i : Int)) X hz h (by rw [hl]; unfold maxLen; omega) (by omega) (by omega)
    rw [ld_wd zs 8 i hl hi, hl] at h1
    exact h1
  have hlw := startL_length zs
  have hb := ((Below.refl w.heap.size w).alloc (Nat.le_refl _) (.cells (K .u64 (List.replicate 8 0)) 23))
  have n0 := (heap_new w (.cells (K .u64 (List.replicate 8 0)) 23))
  have HLD := TW.hide hld
  have HR := TW.hide hr
  have HL := TW.hide hlw
  clear hld hr hlw hz hl
  go_enter Tryd.func15, Tryd.ntmps15
  refine wp_seq_k fun K hK => ?_
  have HK := TW.hide hK
  clear hK
  go_wp2
  refine HK.out _ _ ?_
  clear HK K
  change Code.wp _ _ _ _ (w.alloc (.cells (K .u64 (List.replicate 8 0)) 23))
  generalize hWW : w.alloc (.cells (K .u64 (List.replicate 8 0)) 23) = W at hb n0 ⊢
  have hW : W.heap.size = w.heap.size + 1 := by rw [← hWW]; simp
  clear hWW
  generalize hB : w.heap.size = B at *
  have HTI : Hid (W.rangeAt 0 0 (ivL.map (Value.int .u64))) := ti.below (hB ▸ hb)
  have N0 := TW.hide n0
  have NB := TW.hide hb
  clear n0 hb
  clear ti
  have hne : ((64 : Int) != 64) = false := by simp
  have hn1 : ∀ o, (W.alloc o).heap[B + 1]? = some o := fun o => by rw [← hW]; exact heap_new W o
  have HN1 := TW.hide hn1
  clear hn1
  go_wp2_with (first | (refine wpList_load_mid (by rfl) 23 _ (by rfl) 0 0 (by rfl) (ivL.map (Value.int .u64)) _ HTI.out Tryd.underlying23 rfl (by kernel_rfl) ?_) | (refine wpList_store_row (by rfl) 23 _ _ (by rfl) (B + 1) (K .u64 ivL) (by rfl) (by rfl) 23 _ (HN1.out _) (by kernel_rfl) (by kernel_rfl) (K_one _ _) ?_))
  have n1 := setRow_heap _ _ _ (K .u64 ivL) _ _ (HN1.out (.cells #[.int .u64 0, .int .u64 0, .int .u64 0, .int .u64 0, .int .u64 0, .int .u64 0, .int .u64 0, .int .u64 0] 23))
  have bx := below_setRow (cs := K .u64 ivL) ((Below.refl W.heap.size W).alloc (Nat.le_refl _) (.cells #[.int .u64 0, .int .u64 0, .int .u64 0, .int .u64 0, .int .u64 0, .int .u64 0, .int .u64 0, .int .u64 0] 23)) (g := B + 1) (by omega)
  generalize (W.alloc (.cells #[.int .u64 0, .int .u64 0, .int .u64 0, .int .u64 0, .int .u64 0, .int .u64 0, .int .u64 0, .int .u64 0] 23)).setRow (B + 1) (K .u64 ivL) = X at n1 bx ⊢
  have M0 := TW.hide (blk_keep N0.out bx)
  have M1 := TW.hide n1
  have MB : Hid (Below B w X) := below_row NB.out bx (by omega)
  clear n1 bx N0 NB HTI HN1 hW
  go_loopw [13] (fun i wr => ∃ k : Nat, k ≤ 8 ∧ i = .int .i64 k ∧ wr.heap[B]? = some (.cells (K .u64 (List.replicate 8 0)) 23 (0, 0)) ∧ wr.heap[B + 1]? = some (.cells (K .u64 (part2 (startL zs) ivL k)) 23 (0, 0)) ∧ Below B w wr) (fun i _ => 8 - (intOf i).toNat)
  case atStart => exact ⟨0, Nat.zero_le _, rfl, M0.out, M1.out, MB.out⟩
  case round =>
    obtain ⟨k, hk, rfl, n0, n1, hb⟩ := hrel
    clear M0 M1 MB X W
    have G0 := TW.hide n0
    have G1 := TW.hide n1
    have GB := TW.hide hb
    by_cases hlt : k < 8
    · have hc := blk_cellK n1 (i := k) (by rw [part2_length _ _ 8 _ HL.out ivL_length hk]; exact hlt)
      rw [part2_get _ _ 8 _ HL.out ivL_length hlt] at hc
      have hf := blk_frozen n1 (i := k)
      have hsz := part2_set (startL zs) ivL 8 k HL.out ivL_length hlt
      rw [startL_get zs k hlt] at hsz
      have hcall := HLD.out k wr hlt (HR.out.below (hB ▸ hb))
      have HC := TW.hide hcall
      clear n0 n1 hb hcall
      generalize wd zs k = z at *
      generalize ivL.getD k 0 = y at *
      obtain ⟨q, hq⟩ : ∃ q, xo y z = q := ⟨_, rfl⟩
      rw [hq] at hsz
      unfold xo at hq
      have HS := TW.hide hsz
      clear hsz
      have hk1 : (k : Int) < 8 := by omega
      go_wp2_with fail
      refine HC.out.mono ?_
      rintro e w1 ⟨rfl, rfl⟩
      go_wp2
      go_roundw
      case rel =>
        refine ⟨k + 1, by omega, by go_num, blk_other G0.out (by omega), ?_, GB.out.setCell (by simp) _⟩
        rw [← HS.out]; exact blk_setK G1.out
      case measure => simp [intOf]; omega
    · obtain rfl : k = 8 := by omega
      rw [part2_full _ _ 8 HL.out ivL_length] at n1
      have hi23 := info23 (startL zs) HL.out
      have HO := TW.hide (size8 (List.replicate 8 0) (startL zs) rfl HL.out)
      have HI2 := TW.hide hi23
      have HN := TW.hide n1
      clear n0 n1 hb hi23
      go_wp2_with (first | (refine wpList_load_row (by rfl) 23 _ (by rfl) (B + 1) (by rfl) 23 (K .u64 (startL zs)) (0, 0) _ HN.out Tryd.underlying23 rfl HI2.out ?_) | (refine wpList_store_row (by rfl) 23 _ _ (by rfl) (B) (K .u64 (startL zs)) (by rfl) (by rfl) 23 _ G0.out HI2.out HO.out (K_one _ _) ?_))
      refine bodyPost_ret (v := .tuple #[.agg (K .u64 (startL zs)), .int .i64 0]) (results_row_tmp (P := Tryd.prog) Tryd.results15 _ _ B 23 _ (0, 0) _ _ (by rfl) (by rfl) (setRow_heap _ _ _ _ _ _ G0.out) Tryd.underlying23 rfl HI2.out) rfl ?_
      exact ⟨rfl, below_setRow GB.out (Nat.le_refl _)⟩
set_option maxRecDepth 100000 in
theorem startNo (a : Option Addr) (cap n : Nat) (w : World) (hn : n ≠ 64) :
    Calls Tryd.prog 15 #[.slice a n cap] w fun e w' => e = .returned (.tuple #[.agg (K .u64 (List.replicate 8 0)), .int .i64 1]) ∧ Below w.heap.size w w' := by
  have hb := ((Below.refl w.heap.size w).alloc (Nat.le_refl _) (.cells (K .u64 (List.replicate 8 0)) 23))
  have n0 := (heap_new w (.cells (K .u64 (List.replicate 8 0)) 23))
  go_enter Tryd.func15, Tryd.ntmps15
  refine wp_seq_k fun K hK => ?_
  have HK := TW.hide hK
  clear hK
  go_wp2
  refine HK.out _ _ ?_
  clear HK K
  change Code.wp _ _ _ _ (w.alloc (.cells (K .u64 (List.replicate 8 0)) 23))
  generalize hWW : w.alloc (.cells (K .u64 (List.replicate 8 0)) 23) = W at hb n0 ⊢
  have hW : W.heap.size = w.heap.size + 1 := by rw [← hWW]; simp
  clear hWW
  generalize hB : w.heap.size = B at *
  have iu := info23 (List.replicate 8 0) rfl
  have N0 := TW.hide n0
  have NB := TW.hide hb
  have IU := TW.hide iu
  clear n0 hb iu
  clear hW
  have hne : ((n : Int) != 64) = true := by simp; omega
  go_wp2_with (refine wpList_store_row (by rfl) 23 _ _ (by rfl) (B) (K .u64 (List.replicate 8 0)) (by rfl) (by rfl) 23 _ N0.out IU.out rfl (K_one _ _) ?_)
  refine bodyPost_ret (v := .tuple #[.agg (K .u64 (List.replicate 8 0)), .int .i64 1]) (results_row_tmp (P := Tryd.prog) Tryd.results15 _ _ B 23 _ (0, 0) _ _ (by rfl) (by rfl) (setRow_heap _ _ _ _ _ _ N0.out) Tryd.underlying23 rfl IU.out) rfl ?_
  exact ⟨rfl, below_setRow NB.out (Nat.le_refl _)⟩
set_option maxRecDepth 100000 in
set_option maxHeartbeats 2000000 in
theorem rstartOk (a : Option Addr) (cap : Nat) (zs : List Int) (w : World) (hz : Byt zs) (hr : LW.Row w a zs) (hl : zs.length = 64) :
    Calls Tryd.prog 16 #[.slice a 64 cap] w fun e w' => e = .returned (.tuple #[.agg (K .u64 (startL zs)), .int .i64 0]) ∧ Below w.heap.size w w' := by
  have hld : ∀ (i : Nat) (X : World), i < 8 → LW.Row X a zs → Calls Tryd.prog 31 #[.slice a 64 cap, .int .i64 (8 * (i : Int)), .int .i64 8] X fun e w' => e = .returned (.tuple #[.int .u64 (wd zs i), .int .i64 0]) ∧ X = w' := fun i X hi h => by
    have h1 := LW.rload a cap zs (8 * (i : Int)) 8 X hz h (by rw [hl]; unfold maxLen; omega) (by omega) (by omega) (by omega) (by omega)
    rw [ld_wd zs 8 i hl hi, hl] at h1
    exact h1
  have hlw := startL_length zs
  have hb := (((Below.refl w.heap.size w).alloc (Nat.le_refl _) (.cells (K .u64 (List.replicate 8 0)) 23)).alloc (by simp; try omega) (.cells (K .u64 (List.replicate 8 0)) 23))
  have n0 := (blk_alloc (o' := .cells (K .u64 (List.replicate 8 0)) 23) (heap_new w (.cells (K .u64 (List.replicate 8 0)) 23)))
  have n1 := (heap_new (w.alloc (.cells (K .u64 (List.replicate 8 0)) 23)) (.cells (K .u64 (List.replicate 8 0)) 23))
  rw [show (w.alloc (.cells (K .u64 (List.replicate 8 0)) 23)).heap.size = w.heap.size + 1 by simp] at n1
  have HLD := TW.hide hld
  have HR := TW.hide hr
  have HL := TW.hide hlw
  have HIV := TW.hide (fun (i : Nat) X (h : i < 8) => riv i X h)
  clear hld hr hlw hz hl
  go_enter Tryd.func16, Tryd.ntmps16
  refine wp_seq_k fun K hK => ?_
  have HK := TW.hide hK
  clear hK
  go_wp2
  refine HK.out _ _ ?_
  clear HK K
  refine wp_seq_k fun K hK => ?_
  have HK := TW.hide hK
  clear hK
  go_wp2
  refine HK.out _ _ ?_
  clear HK K
  change Code.wp _ _ _ _ ((w.alloc (.cells (K .u64 (List.replicate 8 0)) 23)).alloc (.cells (K .u64 (List.replicate 8 0)) 23))
  generalize hWW : (w.alloc (.cells (K .u64 (List.replicate 8 0)) 23)).alloc (.cells (K .u64 (List.replicate 8 0)) 23) = W at hb n0 n1 ⊢
  have hW : W.heap.size = w.heap.size + 1 + 1 := by rw [← hWW]; simp
  clear hWW
  generalize hB : w.heap.size = B at *
  have N0 := TW.hide n0
  have N1 := TW.hide n1
  have NB := TW.hide hb
  clear n0 n1 hb
  clear hW
  have hne : ((64 : Int) != 64) = false := by simp
  go_wp2
  go_loopw [5] (fun i wr => ∃ k : Nat, k ≤ 8 ∧ i = .int .i64 k ∧ wr.heap[B]? = some (.cells (K .u64 (List.replicate 8 0)) 23 (0, 0)) ∧ wr.heap[B + 1]? = some (.cells (K .u64 (upto (startL zs) 8 k)) 23 (0, 0)) ∧ Below B w wr) (fun i _ => 8 - (intOf i).toNat)
  case atStart => exact ⟨0, Nat.zero_le _, rfl, N0.out, by simpa [upto] using N1.out, NB.out⟩
  case round =>
    obtain ⟨k, hk, rfl, n0, n1, hb⟩ := hrel
    clear N0 N1 NB W
    have G0 := TW.hide n0
    have G1 := TW.hide n1
    have GB := TW.hide hb
    by_cases hlt : k < 8
    · have hsz := upto_set (startL zs) 8 k HL.out hlt
      have hul := upto_length (startL zs) 8 k HL.out hk
      rw [startL_get zs k hlt] at hsz
      have hcall := HLD.out k wr hlt (HR.out.below (hB ▸ hb))
      have hiv := fun X => HIV.out k X hlt
      have HC := TW.hide hcall
      clear n0 n1 hb hcall
      generalize wd zs k = z at *
      generalize ivL.getD k 0 = y at *
      generalize upto (startL zs) 8 k = us at *
      obtain ⟨q, hq⟩ : ∃ q, xo y z = q := ⟨_, rfl⟩
      rw [hq] at hsz
      unfold xo at hq
      have HS := TW.hide hsz
      have HV := TW.hide hiv
      clear hsz hiv
      have hk1 : (k : Int) < 8 := by omega
      go_wp2_with fail
      refine HC.out.mono ?_
      rintro e w1 ⟨rfl, rfl⟩
      go_wp2_with fail
      refine (HV.out _).mono ?_
      rintro e w2 ⟨rfl, hb2⟩
      have M0 := TW.hide (blk_keep G0.out hb2)
      have m1 := blk_keep G1.out hb2
      have MB : Hid (Below B w w2) := below_row GB.out hb2 (by have := blk_lt G0.out; omega)
      have hc := blk_cellK m1 (i := k) (by rw [hul]; exact hlt)
      have hf := blk_frozen m1 (i := k)
      have M1 := TW.hide m1
      clear hb2 m1 hul
      go_wp2
      go_roundw
      case rel =>
        refine ⟨k + 1, by omega, by go_num, blk_other M0.out (by omega), ?_, MB.out.setCell (by simp) _⟩
        rw [← HS.out]; exact blk_setK M1.out
      case measure => simp [intOf]; omega
    · obtain rfl : k = 8 := by omega
      rw [upto_full _ _ HL.out] at n1
      have hi23 := info23 (startL zs) HL.out
      have HO := TW.hide (size8 (List.replicate 8 0) (startL zs) rfl HL.out)
      have HI2 := TW.hide hi23
      have HN := TW.hide n1
      clear n0 n1 hb hi23
      go_wp2_with (first | (refine wpList_load_row (by rfl) 23 _ (by rfl) (B + 1) (by rfl) 23 (K .u64 (startL zs)) (0, 0) _ HN.out Tryd.underlying23 rfl HI2.out ?_) | (refine wpList_store_row (by rfl) 23 _ _ (by rfl) (B) (K .u64 (startL zs)) (by rfl) (by rfl) 23 _ G0.out HI2.out HO.out (K_one _ _) ?_))
      refine bodyPost_ret (v := .tuple #[.agg (K .u64 (startL zs)), .int .i64 0]) (results_row_tmp (P := Tryd.prog) Tryd.results16 _ _ B 23 _ (0, 0) _ _ (by rfl) (by rfl) (setRow_heap _ _ _ _ _ _ G0.out) Tryd.underlying23 rfl HI2.out) rfl ?_
      exact ⟨rfl, below_setRow GB.out (Nat.le_refl _)⟩
set_option maxRecDepth 100000 in
theorem rstartNo (a : Option Addr) (cap n : Nat) (w : World) (hn : n ≠ 64) :
    Calls Tryd.prog 16 #[.slice a n cap] w fun e w' => e = .returned (.tuple #[.agg (K .u64 (List.replicate 8 0)), .int .i64 1]) ∧ Below w.heap.size w w' := by
  have hb := (((Below.refl w.heap.size w).alloc (Nat.le_refl _) (.cells (K .u64 (List.replicate 8 0)) 23)).alloc (by simp; try omega) (.cells (K .u64 (List.replicate 8 0)) 23))
  have n0 := (blk_alloc (o' := .cells (K .u64 (List.replicate 8 0)) 23) (heap_new w (.cells (K .u64 (List.replicate 8 0)) 23)))
  have n1 := (heap_new (w.alloc (.cells (K .u64 (List.replicate 8 0)) 23)) (.cells (K .u64 (List.replicate 8 0)) 23))
  rw [show (w.alloc (.cells (K .u64 (List.replicate 8 0)) 23)).heap.size = w.heap.size + 1 by simp] at n1
  go_enter Tryd.func16, Tryd.ntmps16
  refine wp_seq_k fun K hK => ?_
  have HK := TW.hide hK
  clear hK
  go_wp2
  refine HK.out _ _ ?_
  clear HK K
  refine wp_seq_k fun K hK => ?_
  have HK := TW.hide hK
  clear hK
  go_wp2
  refine HK.out _ _ ?_
  clear HK K
  change Code.wp _ _ _ _ ((w.alloc (.cells (K .u64 (List.replicate 8 0)) 23)).alloc (.cells (K .u64 (List.replicate 8 0)) 23))
  generalize hWW : (w.alloc (.cells (K .u64 (List.replicate 8 0)) 23)).alloc (.cells (K .u64 (List.replicate 8 0)) 23) = W at hb n0 n1 ⊢
  have hW : W.heap.size = w.heap.size + 1 + 1 := by rw [← hWW]; simp
  clear hWW
  generalize hB : w.heap.size = B at *
  have iu := info23 (List.replicate 8 0) rfl
  have N0 := TW.hide n0
  have N1 := TW.hide n1
  have NB := TW.hide hb
  have IU := TW.hide iu
  clear n0 n1 hb iu
  clear hW
  have hne : ((n : Int) != 64) = true := by simp; omega
  go_wp2_with (first | (refine wpList_load_row (by rfl) 23 _ (by rfl) (B + 1) (by rfl) 23 (K .u64 (List.replicate 8 0)) (0, 0) _ N1.out Tryd.underlying23 rfl IU.out ?_) | (refine wpList_store_row (by rfl) 23 _ _ (by rfl) (B) (K .u64 (List.replicate 8 0)) (by rfl) (by rfl) 23 _ N0.out IU.out rfl (K_one _ _) ?_))
  refine bodyPost_ret (v := .tuple #[.agg (K .u64 (List.replicate 8 0)), .int .i64 1]) (results_row_tmp (P := Tryd.prog) Tryd.results16 _ _ B 23 _ (0, 0) _ _ (by rfl) (by rfl) (setRow_heap _ _ _ _ _ _ N0.out) Tryd.underlying23 rfl IU.out) rfl ?_
  exact ⟨rfl, below_setRow NB.out (Nat.le_refl _)⟩
end MX
end Go.Proofs.YtkilackhomhpgaaDoor
