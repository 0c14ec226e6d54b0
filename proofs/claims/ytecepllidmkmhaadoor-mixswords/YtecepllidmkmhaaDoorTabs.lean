/-
  What the calls rest, isRound, isPlace, fourPlaces, IV, Sigma (the program) and IV, Digit, Sigma, place, Places (the document) give.
-/
import Derived.Test.YtecepllidmkmhaaDoorArr
namespace Go.Proofs.YtecepllidmkmhaaDoor
open Go.RowKit
set_option linter.unusedVariables false
set_option linter.unusedSimpArgs false
namespace MX
theorem tmod10 (n : Int) : n.tmod 10 = n % 10 ∨ n.tmod 10 = n % 10 - 10 ∧ 0 < n % 10 := by
  rw [Int.tmod_eq_emod]
  split
  · left; omega
  · rename_i h
    right
    refine ⟨by omega, ?_⟩
    have : n % 10 ≠ 0 := fun h0 => h (.inr (Int.dvd_of_emod_eq_zero h0))
    omega
theorem rest (n : Int) (w : World) : Calls Tryd.prog 56 #[.int .i64 n] w fun e w' => e = .returned (.int .i64 (n % 10)) ∧ w = w' := by
  have ht := tmod10 n
  have hl := Int.emod_nonneg n (show (10 : Int) ≠ 0 by omega)
  have hu := Int.emod_lt_of_pos n (show (0 : Int) < 10 by omega)
  generalize hR : n % 10 = r at *
  clear hR
  go_enter Tryd.func56, Tryd.ntmps56
  go_wp2
  · go_ret
    exact ⟨TW.ret_int (by omega), rfl⟩
  · go_ret
    exact ⟨TW.ret_int (by omega), rfl⟩
theorem isRound (n : Int) (w : World) : Calls Tryd.prog 38 #[.int .i64 n] w fun e w' => e = .returned (.bool (decide (0 ≤ n) && decide (n < 10))) ∧ w = w' := by
  go_enter Tryd.func38, Tryd.ntmps38
  go_wp2
  all_goals go_ret
  all_goals exact ⟨LW.ret_bool (by simp_all; try omega), rfl⟩
theorem heap_new (w : World) (o : Obj) : (w.alloc o).heap[w.heap.size]? = some o := heap_alloc_new w o
set_option maxRecDepth 100000 in
theorem iv (w : World) (ht : Tab w 0 .u32 ivL) : Calls Tryd.prog 13 #[] w fun e w' => e = .returned (.agg (K .u32 ivL)) ∧ Below w.heap.size w w' := by
  have hb := (Below.refl w.heap.size w).alloc (Nat.le_refl _) (.cells (K .u32 [0, 0, 0, 0, 0, 0, 0, 0]) 24)
  have n0 := heap_new w (.cells (K .u32 [0, 0, 0, 0, 0, 0, 0, 0]) 24)
  go_enter Tryd.func13, Tryd.ntmps13
  refine wp_seq_k fun K hK => ?_
  have HK := TW.hide hK
  clear hK
  go_wp2
  refine HK.out _ _ ?_
  clear HK K
  change Code.wp _ _ _ _ (w.alloc (.cells (K .u32 [0, 0, 0, 0, 0, 0, 0, 0]) 24))
  generalize w.alloc (.cells (K .u32 [0, 0, 0, 0, 0, 0, 0, 0]) 24) = W at hb n0 ⊢
  refine wp_seq ?_
  refine wp_region_lit ?_
  refine wpList_load_mid rfl 24 _ rfl 0 0 (by kernel_rfl) (ivL.map (Value.int .u32)) _ (ht.below hb) Tryd.underlying24 rfl (by kernel_rfl) ?_
  refine wpList_store_row rfl 24 _ _ rfl w.heap.size (K .u32 ivL) (by kernel_rfl) (by kernel_rfl) 24 _ n0 (by kernel_rfl) (by kernel_rfl) (K_one _ _) ?_
  refine wpList_nil ?_
  simp only [Exit.then]
  refine wp_ret ?_
  refine bodyPost_ret (v := .agg (K .u32 ivL)) (results_cell_row (P := Tryd.prog) Tryd.results13 _ _ w.heap.size 24 (K .u32 ivL) (0, 0) _ (by kernel_rfl) (setRow_heap _ _ _ _ _ _ n0) Tryd.underlying24 rfl (by kernel_rfl)) rfl ?_
  exact ⟨rfl, below_setRow hb (Nat.le_refl _)⟩
/-- The first k of a list, and noughts behind them. -/
def upto (l : List Int) (n k : Nat) : List Int := l.take k ++ List.replicate (n - k) 0
theorem upto_length (l : List Int) (n k : Nat) (hl : l.length = n) (hk : k ≤ n) : (upto l n k).length = n := by simp [upto]; omega
theorem upto_set (l : List Int) (n k : Nat) (hl : l.length = n) (hk : k < n) : (upto l n k).set k (l.getD k 0) = upto l n (k + 1) := by
  have e : n - k = n - (k + 1) + 1 := by omega
  unfold upto
  rw [List.set_append_right _ _ (by simp; omega), LW.take_snoc l k (by omega), List.length_take, show k - min k l.length = 0 by omega, e, List.replicate_succ, List.set_cons_zero, List.append_assoc]
  rfl
theorem upto_full (l : List Int) (n : Nat) (hl : l.length = n) : upto l n n = l := by simp [upto, ← hl]
set_option maxRecDepth 100000 in
theorem sigma (n : Int) (w : World) (ht : Tab w 1 .u8 ordL) : Calls Tryd.prog 48 #[.int .i64 n] w fun e w' => e = .returned (.agg (K .i64 (ord (n % 10).toNat))) ∧ Below w.heap.size w w' := by
  have hr0 := fun W => rest n W
  have hl := Int.emod_nonneg n (show (10 : Int) ≠ 0 by omega)
  have hu := Int.emod_lt_of_pos n (show (0 : Int) < 10 by omega)
  generalize n % 10 = r0 at *
  obtain ⟨r, rfl⟩ := Int.eq_ofNat_of_zero_le hl
  rw [Int.toNat_natCast]
  have hlen := ord_length r (by omega)
  have hi56 : (Tryd.prog.info? 86).map (·.size) = some ((ord r).map (Value.int .u8)).length := by rw [List.length_map, hlen]; kernel_rfl
  have hb := ((Below.refl w.heap.size w).alloc (Nat.le_refl _) (.cells (K .i64 (List.replicate 16 0)) 76)).alloc (by simp) (.cells (K .i64 (List.replicate 16 0)) 76)
  have n0 := blk_alloc (o' := .cells (K .i64 (List.replicate 16 0)) 76) (heap_new w (.cells (K .i64 (List.replicate 16 0)) 76))
  have n1 := heap_new (w.alloc (.cells (K .i64 (List.replicate 16 0)) 76)) (.cells (K .i64 (List.replicate 16 0)) 76)
  rw [show (w.alloc (.cells (K .i64 (List.replicate 16 0)) 76)).heap.size = w.heap.size + 1 by simp] at n1
  have HR := TW.hide hr0
  clear hr0
  go_enter Tryd.func48, Tryd.ntmps48
  refine wp_seq_k fun K hK => ?_
  have HK := TW.hide hK
  clear hK
  go_wp2
  refine HK.out _ _ ?_
  clear HK K
  refine wp_seq_k fun K hK => ?_
  have HK := TW.hide hK
  clear hK
  go_wp2
  refine HK.out _ _ ?_
  clear HK K
  change Code.wp _ _ _ _ ((w.alloc (.cells (K .i64 (List.replicate 16 0)) 76)).alloc (.cells (K .i64 (List.replicate 16 0)) 76))
  generalize (w.alloc (.cells (K .i64 (List.replicate 16 0)) 76)).alloc (.cells (K .i64 (List.replicate 16 0)) 76) = W at hb n0 n1 ⊢
  have HT := TW.hide ((ht.below hb).mid (r * 16) 16)
  change Hid (W.rangeAt 1 (r * 16) ((ord r).map (Value.int .u8))) at HT
  have H0 := TW.hide n0
  have H1 := TW.hide n1
  have HB := TW.hide hb
  have HI := TW.hide hi56
  have HL := TW.hide hlen
  clear n0 n1 hb ht hi56 hlen
  go_wp2_with (first | (go_at_call 56; refine (HR.out _).mono ?_; rintro e w' ⟨rfl, rfl⟩) | (refine wpList_load_mid (by rfl) 86 _ (by rfl) 1 (r * 16) (by rfl) ((ord r).map (Value.int .u8)) _ HT.out Tryd.underlying86 rfl HI.out ?_))
  go_loopw [10] (fun i wr => ∃ k : Nat, k ≤ 16 ∧ i = .int .i64 k ∧ wr.heap[w.heap.size]? = some (.cells (K .i64 (List.replicate 16 0)) 76 (0, 0)) ∧ wr.heap[w.heap.size + 1]? = some (.cells (K .i64 (upto (ord r) 16 k)) 76 (0, 0)) ∧ Below w.heap.size w wr) (fun i _ => 16 - (intOf i).toNat)
  case atStart => exact ⟨0, Nat.zero_le _, rfl, H0.out, by simpa [upto] using H1.out, HB.out⟩
  case round =>
    obtain ⟨k, hk, rfl, n0, n1, hb⟩ := hrel
    have G0 := TW.hide n0
    have G1 := TW.hide n1
    have GB := TW.hide hb
    by_cases hlt : k < 16
    · have hx : ∀ X, (Instr.index 86 (.agg ((ord r).map (Value.int .u8)).toArray) (.int .i64 (k : Int))).run Tryd.prog X = .ok (.int .u8 ((ord r).getD k 0)) X := fun X =>
        run_index_cell 86 5 16 _ _ k _ X Tryd.underlying86 Tryd.underlying5 rfl (by kernel_rfl) hlt (K_get .u8 (ord r) k (by rw [HL.out]; exact hlt))
      have hc := blk_cellK n1 (i := k) (by rw [upto_length _ _ _ HL.out hk]; exact hlt)
      have hf := blk_frozen n1 (i := k)
      have hbd := ord_bd r k (by omega) hlt
      have hsz := upto_set (ord r) 16 k HL.out hlt
      have HS := TW.hide hsz
      obtain ⟨hb1, hb2⟩ := hbd
      clear n0 n1 hb hsz
      generalize (ord r).getD k 0 = z at *
      generalize (upto (ord r) 16 k).getD k 0 = y at *
      have hk0 : (0 : Int) ≤ (k : Int) := by omega
      have hk1 : (k : Int) < 16 := by omega
      go_wp2
      refine ⟨⟨k + 1, by omega, by go_num, blk_other G0.out (by omega), ?_, GB.out.setCell (by simp) _⟩, by simp [intOf]; omega⟩
      rw [← HS.out]; exact blk_setK G1.out
    · obtain rfl : k = 16 := by omega
      rw [upto_full _ _ HL.out] at n1
      have hi26 : (Tryd.prog.info? 76).map (·.size) = some (K .i64 (ord r)).size := by rw [K_size, HL.out]; kernel_rfl
      have HI2 := TW.hide hi26
      have HN := TW.hide n1
      clear n0 n1 hb hi26
      go_wp2_with (first | (refine wpList_load_row (by rfl) 76 _ (by rfl) (w.heap.size + 1) (by rfl) 76 (K .i64 (ord r)) (0, 0) _ HN.out Tryd.underlying76 rfl HI2.out ?_) | (refine wpList_store_row (by rfl) 76 _ _ (by rfl) w.heap.size (K .i64 (ord r)) (by rfl) (by rfl) 76 _ G0.out HI2.out (by rw [K_size, K_size, HL.out]; rfl) (K_one _ _) ?_))
      refine bodyPost_ret (v := .agg (K .i64 (ord r))) (results_cell_row (P := Tryd.prog) Tryd.results48 _ _ w.heap.size 76 (K .i64 (ord r)) (0, 0) _ (by rfl) (setRow_heap _ _ _ _ _ _ G0.out) Tryd.underlying76 rfl HI2.out) rfl ?_
      exact ⟨rfl, below_setRow GB.out (Nat.le_refl _)⟩
set_option maxRecDepth 100000 in
set_option maxRecDepth 100000 in
theorem digit (z : Int) (w : World) (h0 : 0 ≤ z) (h1 : z < 16) : Calls Tryd.prog 53 #[.int .u8 (if z < 10 then 48 + z else 87 + z)] w fun e w' => e = .returned (.int .i64 z) ∧ w = w' := by
  by_cases hz : z < 10
  · rw [if_pos hz]
    go_enter Tryd.func53, Tryd.ntmps53
    go_wp2
    go_ret
    exact ⟨TW.ret_int (by omega), rfl⟩
  · rw [if_neg hz]
    go_enter Tryd.func53, Tryd.ntmps53
    go_wp2
    go_ret
    exact ⟨TW.ret_int (by omega), rfl⟩
/-- The letters of the orders. -/
def hexL : List Int := ordL.map fun z => if z < 10 then 48 + z else 87 + z
theorem run_index_rows (S : ByteArray) (hS : (S.data.toList.map (fun x => (x.toNat : Int)) == hexL) = true) (j : Nat) (hj : j < 160) (w : World) :
    (Instr.index 9 (.string S) (.int .i64 (j : Int))).run Tryd.prog w = .ok (.int .u8 (hexL.getD j 0)) w := by
  have hS' : S.data.toList.map (fun x => (x.toNat : Int)) = hexL := by simpa using hS
  have hl : hexL.length = 160 := by decide +kernel
  have hs : S.data.toList.length = 160 := by rw [← hl, ← hS', List.length_map]
  have hlt : j < S.data.toList.length := by omega
  have hget : hexL.getD j 0 = ((S.data.toList[j]).toNat : Int) := by
    rw [← hS', List.getD_eq_getElem?_getD, List.getElem?_map, List.getElem?_eq_getElem hlt]; rfl
  have hb : S[j]? = some (S.data.toList[j]) := by
    have hz : j < S.size := by
      have : S.size = S.data.toList.length := by rw [Array.length_toList]; rfl
      omega
    rw [getElem?_pos S j hz]
    rfl
  rw [hget]
  simp [Instr.index, asIntOf, Sem.run_bind, run_underlying Tryd.underlying9 w, hb]
/-- The text of the orders. -/
def rowsS : ByteArray := { data := (([48, 49, 50, 51, 52, 53, 54, 55, 56, 57, 97, 98, 99, 100, 101, 102, 101, 97, 52, 56, 57, 102, 100, 54, 49, 99, 48, 50, 98, 55, 53, 51, 98, 56, 99, 48, 53, 50, 102, 100].append [97, 101, 51, 54, 55, 49, 57, 52, 55, 57, 51, 49, 100, 99, 98, 101, 50, 54, 53, 97, 52, 48, 102, 56, 57, 48, 53, 55, 50, 52, 97, 102, 101, 49, 98, 99, 54, 56, 51, 100]).append ([50, 99, 54, 97, 48, 98, 56, 51, 52, 100, 55, 53, 102, 101, 49, 57, 99, 53, 49, 102, 101, 100, 52, 97, 48, 55, 54, 51, 57, 50, 56, 98, 100, 98, 55, 101, 99, 49, 51, 57].append [53, 48, 102, 52, 56, 54, 50, 97, 54, 102, 101, 57, 98, 51, 48, 56, 99, 50, 100, 55, 49, 52, 97, 53, 97, 50, 56, 52, 55, 54, 49, 53, 102, 98, 57, 101, 51, 99, 100, 48])).toArray }
theorem rowsS_is : (rowsS.data.toList.map (fun x => (x.toNat : Int)) == hexL) = true := by decide +kernel
theorem ord_get (r i : Nat) (hi : i < 16) : (ord r).getD i 0 = ordL.getD (r * 16 + i) 0 := by
  simp [ord, List.getD_eq_getElem?_getD, List.getElem?_take, hi, List.getElem?_drop]
theorem hex_get (j : Nat) (hj : j < 160) : hexL.getD j 0 = if ordL.getD j 0 < 10 then 48 + ordL.getD j 0 else 87 + ordL.getD j 0 := by
  have hl : j < ordL.length := by simpa [ordL] using hj
  simp [hexL, List.getD_eq_getElem?_getD, List.getElem?_map, List.getElem?_eq_getElem hl]
set_option maxRecDepth 100000 in
theorem rsigma (n : Int) (i : Nat) (w : World) (hi : i < 16) : Calls Tryd.prog 42 #[.int .i64 n, .int .i64 i] w fun e w' => e = .returned (.int .i64 ((ord (n % 10).toNat).getD i 0)) ∧ w = w' := by
  have hr0 := fun W => TW.rest n 10 W (by omega) (by omega)
  have hl := Int.emod_nonneg n (show (10 : Int) ≠ 0 by omega)
  have hu := Int.emod_lt_of_pos n (show (0 : Int) < 10 by omega)
  generalize n % 10 = r0 at *
  obtain ⟨r, rfl⟩ := Int.eq_ofNat_of_zero_le hl
  rw [Int.toNat_natCast]
  have hbd := ord_bd r i (by omega) hi
  have hx := hex_get (r * 16 + i) (by omega)
  rw [← ord_get r i hi] at hx
  generalize (ord r).getD i 0 = z at *
  have hd := fun X => digit z X hbd.1 hbd.2
  rw [← hx] at hd
  have HR := TW.hide hr0
  have HD := TW.hide hd
  have HJ : Hid (r * 16 + i < 160) := by show _ < _; omega
  have HE : Hid (16 * (r : Int) + (i : Int) = ((r * 16 + i : Nat) : Int)) := by show _ = _; omega
  clear hr0 hd hx hbd
  generalize hY : hexL.getD (r * 16 + i) 0 = y at *
  have HY := TW.hide hY
  clear hY
  have hj0 : (0 : Int) ≤ 16 * (r : Int) + (i : Int) := by omega
  have hj1 : 16 * (r : Int) + (i : Int) < 160 := by omega
  have hx : ∀ X, (Instr.index 9 (.string rowsS) (.int .i64 (16 * (r : Int) + (i : Int)))).run Tryd.prog X = .ok (.int .u8 y) X := fun X => by
    rw [HE.out, ← HY.out]; exact run_index_rows rowsS rowsS_is _ HJ.out X
  go_enter Tryd.func42, Tryd.ntmps42
  change Code.wp _ ((Code.region 0 _ _).seq ((Code.region 1 #[_, _, _, _, _, { dst := some 10, op := Op.index 9 (Operand.const (Value.string rowsS)) (Operand.tmp 9), type := 5, pos := _, after := _, guard := _ }, _, _] _).seq _)) _ _ _
  generalize Value.string rowsS = S at hx ⊢
  go_wp2_with (first | (go_at_call 54; refine (HR.out _).mono ?_; rintro e w' ⟨rfl, rfl⟩) | (go_at_call 53; refine (HD.out _).mono ?_; rintro e w' ⟨rfl, rfl⟩))
  go_ret
  exact ⟨rfl, rfl⟩
set_option maxRecDepth 100000 in
theorem riv (w : World) : Calls Tryd.prog 14 #[] w fun e w' => e = .returned (.agg (K .u32 ivL)) ∧ Below w.heap.size w w' := by
  have hb := (Below.refl w.heap.size w).alloc (Nat.le_refl _) (.cells (K .u32 [0, 0, 0, 0, 0, 0, 0, 0]) 24)
  have n0 := heap_new w (.cells (K .u32 [0, 0, 0, 0, 0, 0, 0, 0]) 24)
  go_enter Tryd.func14, Tryd.ntmps14
  refine wp_seq_k fun K hK => ?_
  have HK := TW.hide hK
  clear hK
  go_wp2
  refine HK.out _ _ ?_
  clear HK K
  change Code.wp _ _ _ _ (w.alloc (.cells (K .u32 [0, 0, 0, 0, 0, 0, 0, 0]) 24))
  generalize w.alloc (.cells (K .u32 [0, 0, 0, 0, 0, 0, 0, 0]) 24) = W at hb n0 ⊢
  refine wp_seq ?_
  refine wp_region_lit ?_
  refine Great.wpList_runTo rfl _ rfl (.agg (K .u32 ivL)) W (by kernel_rfl) ?_
  simp only [Act.put, List.setIfInBounds_toArray, List.set_cons_zero, List.set_cons_succ]
  refine wpList_store_row rfl 24 _ _ rfl w.heap.size (K .u32 ivL) (by kernel_rfl) (by kernel_rfl) 24 _ n0 (by kernel_rfl) (by kernel_rfl) (K_one _ _) ?_
  refine wpList_nil ?_
  simp only [Exit.then]
  refine wp_ret ?_
  refine bodyPost_ret (v := .agg (K .u32 ivL)) (results_cell_row (P := Tryd.prog) Tryd.results14 _ _ w.heap.size 24 (K .u32 ivL) (0, 0) _ (by kernel_rfl) (setRow_heap _ _ _ _ _ _ n0) Tryd.underlying24 rfl (by kernel_rfl)) rfl ?_
  exact ⟨rfl, below_setRow hb (Nat.le_refl _)⟩
set_option maxRecDepth 100000 in
theorem places (w : World) : Calls Tryd.prog 49 #[] w fun e w' => e = .returned (.agg (K .u8 plL)) ∧ Below w.heap.size w w' := by
  have hb := (Below.refl w.heap.size w).alloc (Nat.le_refl _) (.cells (K .u8 (List.replicate 32 0)) 79)
  have n0 := heap_new w (.cells (K .u8 (List.replicate 32 0)) 79)
  go_enter Tryd.func49, Tryd.ntmps49
  refine wp_seq_k fun K hK => ?_
  have HK := TW.hide hK
  clear hK
  go_wp2
  refine HK.out _ _ ?_
  clear HK K
  change Code.wp _ _ _ _ (w.alloc (.cells (K .u8 (List.replicate 32 0)) 79))
  generalize w.alloc (.cells (K .u8 (List.replicate 32 0)) 79) = W at hb n0 ⊢
  refine wp_seq ?_
  refine wp_region_lit ?_
  refine Great.wpList_runTo rfl _ rfl (.agg (K .u8 [0, 4, 8, 12])) W (by kernel_rfl) ?_
  simp only [Act.put, List.setIfInBounds_toArray, List.set_cons_zero, List.set_cons_succ]
  refine Great.wpList_runTo rfl _ rfl (.agg (K .u8 [1, 5, 9, 13])) W (by kernel_rfl) ?_
  simp only [Act.put, List.setIfInBounds_toArray, List.set_cons_zero, List.set_cons_succ]
  refine Great.wpList_runTo rfl _ rfl (.agg (K .u8 [2, 6, 10, 14])) W (by kernel_rfl) ?_
  simp only [Act.put, List.setIfInBounds_toArray, List.set_cons_zero, List.set_cons_succ]
  refine Great.wpList_runTo rfl _ rfl (.agg (K .u8 [3, 7, 11, 15])) W (by kernel_rfl) ?_
  simp only [Act.put, List.setIfInBounds_toArray, List.set_cons_zero, List.set_cons_succ]
  refine Great.wpList_runTo rfl _ rfl (.agg (K .u8 [0, 5, 10, 15])) W (by kernel_rfl) ?_
  simp only [Act.put, List.setIfInBounds_toArray, List.set_cons_zero, List.set_cons_succ]
  refine Great.wpList_runTo rfl _ rfl (.agg (K .u8 [1, 6, 11, 12])) W (by kernel_rfl) ?_
  simp only [Act.put, List.setIfInBounds_toArray, List.set_cons_zero, List.set_cons_succ]
  refine Great.wpList_runTo rfl _ rfl (.agg (K .u8 [2, 7, 8, 13])) W (by kernel_rfl) ?_
  simp only [Act.put, List.setIfInBounds_toArray, List.set_cons_zero, List.set_cons_succ]
  refine Great.wpList_runTo rfl _ rfl (.agg (K .u8 [3, 4, 9, 14])) W (by kernel_rfl) ?_
  simp only [Act.put, List.setIfInBounds_toArray, List.set_cons_zero, List.set_cons_succ]
  refine Great.wpList_runTo rfl _ rfl (.agg (K .u8 plL)) W (by kernel_rfl) ?_
  simp only [Act.put, List.setIfInBounds_toArray, List.set_cons_zero, List.set_cons_succ]
  refine wpList_store_row rfl 79 _ _ rfl w.heap.size (K .u8 plL) (by kernel_rfl) (by kernel_rfl) 79 _ n0 (by kernel_rfl) (by kernel_rfl) (K_one _ _) ?_
  refine wpList_nil ?_
  simp only [Exit.then]
  refine wp_ret ?_
  refine bodyPost_ret (v := .agg (K .u8 plL)) (results_cell_row (P := Tryd.prog) Tryd.results49 _ _ w.heap.size 79 (K .u8 plL) (0, 0) _ (by kernel_rfl) (setRow_heap _ _ _ _ _ _ n0) Tryd.underlying79 rfl (by kernel_rfl)) rfl ?_
  exact ⟨rfl, below_setRow hb (Nat.le_refl _)⟩
end MX
end Go.Proofs.YtecepllidmkmhaaDoor
