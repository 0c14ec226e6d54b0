/-
  What the calls Words (the program, the document) give, for all bytes.
-/
import Derived.Test.YtecepllidmkmhaaDoorLoad
import Derived.Test.YtecepllidmkmhaaDoorRinfo
import Derived.Test.YtecepllidmkmhaaDoorStore
import Derived.Test.YtecepllidmkmhaaDoorStructs
namespace Go.Proofs.YtecepllidmkmhaaDoor
open Go.RowKit
set_option linter.unusedVariables false
set_option linter.unusedSimpArgs false
namespace MX
open Turn
attribute [local go_sem ↓] Go.wp_at_zero Go.wp_at_succ
open Words
/-- The word at a place of a row of words. -/
def wd (zs : List Int) (i : Nat) : Int := le ((zs.drop (4 * i)).take 4)
def wordsL (zs : List Int) (n : Nat) : List Int := (List.range n).map (wd zs)
theorem wordsL_length (zs : List Int) (n : Nat) : (wordsL zs n).length = n := by simp [wordsL]
theorem wordsL_get (zs : List Int) (n i : Nat) (h : i < n) : (wordsL zs n).getD i 0 = wd zs i := by
  simp [wordsL, List.getD_eq_getElem?_getD, h]
theorem wd_W (zs : List Int) (hz : Byt zs) (i : Nat) : W (wd zs i) := by
  have hb := le_bd ((hz.drop (4 * i)).take 4)
  have hl : ((zs.drop (4 * i)).take 4).length ≤ 4 := by simp; omega
  have hp : (256 : Int) ^ ((zs.drop (4 * i)).take 4).length ≤ 4294967296 := by
    generalize ((zs.drop (4 * i)).take 4).length = k at hl
    have : k = 0 ∨ k = 1 ∨ k = 2 ∨ k = 3 ∨ k = 4 := by omega
    rcases this with rfl | rfl | rfl | rfl | rfl <;> decide
  exact ⟨hb.1, by unfold wd; omega⟩
theorem wordsL_Ws (zs : List Int) (hz : Byt zs) (n : Nat) : Ws (wordsL zs n) := fun x hx => by
  simp only [wordsL, List.mem_map] at hx
  obtain ⟨i, _, rfl⟩ := hx
  exact wd_W zs hz i
theorem ld_wd (zs : List Int) (n i : Nat) (h : zs.length = 4 * n) (hi : i < n) : ld zs (4 * (i : Int)) 4 = (wd zs i, 0) := by
  rw [ld_ok zs (4 * (i : Int)) 4 (by omega) (by omega)]
  unfold wd
  rw [show (4 * (i : Int)).toNat = 4 * i by omega]
theorem wd_four (zs : List Int) (i : Nat) (h : 4 * i + 3 < zs.length) : wd zs i = zs.getD (4 * i) 0 + 256 * (zs.getD (4 * i + 1) 0 + 256 * (zs.getD (4 * i + 2) 0 + 256 * zs.getD (4 * i + 3) 0)) := by
  unfold wd
  have e : (zs.drop (4 * i)).take 4 = [zs.getD (4 * i) 0, zs.getD (4 * i + 1) 0, zs.getD (4 * i + 2) 0, zs.getD (4 * i + 3) 0] := by
    apply List.ext_getElem?
    intro j
    rcases Nat.lt_or_ge j 4 with hj | hj
    · have : j = 0 ∨ j = 1 ∨ j = 2 ∨ j = 3 := by omega
      rcases this with rfl | rfl | rfl | rfl <;> simp [List.getElem?_take, List.getElem?_drop, List.getD_eq_getElem?_getD, List.getElem?_eq_getElem (show _ < zs.length from by omega)]
      all_goals rw [List.getElem?_eq_getElem (by omega)]; rfl
    · rw [List.getElem?_eq_none (by simp; omega), List.getElem?_eq_none (by simpa using hj)]
  rw [e]
  simp [le]
/-- What a look at a length tells. -/
def justE (n size : Nat) : Int := if n < size then 3 else if size < n then 2 else 0
theorem just (a : Option Addr) (n cap size : Nat) (w : World) : Calls Tryd.prog 34 #[.slice a n cap, .int .i64 (size : Int)] w fun e w' => e = .returned (.int .i64 (justE n size)) ∧ w = w' := by
  unfold justE
  by_cases h1 : n < size
  · rw [if_pos h1]
    have h1' : (n : Int) < (size : Int) := by omega
    go_enter Tryd.func34, Tryd.ntmps34
    go_wp2
    go_ret
    exact ⟨rfl, rfl⟩
  · rw [if_neg h1]
    by_cases h2 : size < n
    · rw [if_pos h2]
      have h1' : ¬ (n : Int) < (size : Int) := by omega
      have h2' : (size : Int) < (n : Int) := by omega
      go_enter Tryd.func34, Tryd.ntmps34
      go_wp2
      go_ret
      exact ⟨rfl, rfl⟩
    · rw [if_neg h2]
      have h1' : ¬ (n : Int) < (size : Int) := by omega
      have h2' : ¬ (size : Int) < (n : Int) := by omega
      go_enter Tryd.func34, Tryd.ntmps34
      go_wp2
      go_ret
      exact ⟨rfl, rfl⟩
set_option maxHeartbeats 1000000 in
theorem rload4 (a : Option Addr) (cap : Nat) (zs : List Int) (i : Nat) (w : World) (hz : Byt zs) (hr : LW.Row w a zs) (h : 4 * i + 3 < zs.length) (hm : zs.length ≤ maxLen) :
    Calls Tryd.prog 36 #[.slice a zs.length cap, .int .i64 (4 * (i : Int))] w fun e w' => e = .returned (.int .u32 (wd zs i)) ∧ ∃ q, w' = w.drewN q := by
  rcases hr with rfl | ⟨b, off, rfl, hc⟩
  · simp at h
  · rw [wd_four zs i h]
    unfold maxLen at hm
    have c0 := hc (4 * i) (by omega)
    have c1 := hc (4 * i + 1) (by omega)
    have c2 := hc (4 * i + 2) (by omega)
    have c3 := hc (4 * i + 3) (by omega)
    obtain ⟨a0, b0⟩ := hz.get (4 * i)
    obtain ⟨a1, b1⟩ := hz.get (4 * i + 1)
    obtain ⟨a2, b2⟩ := hz.get (4 * i + 2)
    obtain ⟨a3, b3⟩ := hz.get (4 * i + 3)
    generalize zs.getD (4 * i) 0 = z0 at *
    generalize zs.getD (4 * i + 1) 0 = z1 at *
    generalize zs.getD (4 * i + 2) 0 = z2 at *
    generalize zs.getD (4 * i + 3) 0 = z3 at *
    generalize zs.length = len at *
    obtain ⟨j, hj⟩ : ∃ j, 4 * i = j := ⟨_, rfl⟩
    have e4 : 4 * (i : Int) = (j : Int) := by omega
    rw [e4]
    rw [hj] at c0 c1 c2 c3 h
    clear hc hz hj e4
    have l0 : (j : Int) < (len : Int) := by omega
    have l1 : (j : Int) + 1 < (len : Int) := by omega
    have l2 : (j : Int) + 2 < (len : Int) := by omega
    have l3 : (j : Int) + 3 < (len : Int) := by omega
    go_enter Tryd.func36, Tryd.ntmps36
    go_wp2
    go_quiet (fail)
    go_wp2
    go_ret
    exact ⟨TW.ret_int (by omega), _, rfl⟩
set_option maxRecDepth 100000 in
set_option maxHeartbeats 2000000 in
theorem wordsOk (a : Option Addr) (cap : Nat) (zs : List Int) (w : World) (hz : Byt zs) (hr : LW.Row w a zs) (hl : zs.length = 64) :
    Calls Tryd.prog 9 #[.slice a 64 cap] w fun e w' => e = .returned (.tuple #[.agg (K .u32 (wordsL zs 16)), .int .i64 0]) ∧ Below w.heap.size w w' := by
  have hld : ∀ (i : Nat) (X : World), i < 16 → LW.Row X a zs → Calls Tryd.prog 35 #[.slice a 64 cap, .int .i64 (4 * (i : Int))] X fun e w' => e = .returned (.tuple #[.int .u32 (wd zs i), .int .i64 0]) ∧ X = w' := fun i X hi h => by
    have h1 := LW.load32 a cap zs (4 * (i : Int)) X hz h (by rw [hl]; unfold maxLen; omega) (by omega) (by omega)
    rw [ld_wd zs 16 i hl hi, hl] at h1
    exact h1
  have hlw := wordsL_length zs 16
  have hju := fun Y => just a 64 cap 64 Y
  have hb := (((Below.refl w.heap.size w).alloc (Nat.le_refl _) (.cells (K .u32 (List.replicate 16 0)) 26)).alloc (by simp; try omega) (.cells (K .u32 (List.replicate 16 0)) 26))
  have n0 := (blk_alloc (o' := .cells (K .u32 (List.replicate 16 0)) 26) (heap_new w (.cells (K .u32 (List.replicate 16 0)) 26)))
  have n1 := (heap_new (w.alloc (.cells (K .u32 (List.replicate 16 0)) 26)) (.cells (K .u32 (List.replicate 16 0)) 26))
  rw [show (w.alloc (.cells (K .u32 (List.replicate 16 0)) 26)).heap.size = w.heap.size + 1 by simp] at n1
  have HLD := TW.hide hld
  have HR := TW.hide hr
  have HL := TW.hide hlw
  have HJ := TW.hide hju
  clear hld hr hlw hz hl hju
  go_enter Tryd.func9, Tryd.ntmps9
  refine wp_seq_k fun K hK => ?_
  have HK := TW.hide hK
  clear hK
  go_wp2
  refine HK.out _ _ ?_
  clear HK K
  refine wp_seq_k fun K hK => ?_
  have HK := TW.hide hK
  clear hK
  go_wp2
  refine HK.out _ _ ?_
  clear HK K
  change Code.wp _ _ _ _ ((w.alloc (.cells (K .u32 (List.replicate 16 0)) 26)).alloc (.cells (K .u32 (List.replicate 16 0)) 26))
  generalize hWW : (w.alloc (.cells (K .u32 (List.replicate 16 0)) 26)).alloc (.cells (K .u32 (List.replicate 16 0)) 26) = W at hb n0 n1 ⊢
  have hW : W.heap.size = w.heap.size + 1 + 1 := by rw [← hWW]; simp
  clear hWW
  generalize hB : w.heap.size = B at *
  have HRW := TW.hide (HR.out.below (hB ▸ hb))
  have N0 := TW.hide n0
  have N1 := TW.hide n1
  have NB := TW.hide hb
  clear n0 n1 hb
  clear hW
  go_wp2_with fail
  refine (HJ.out _).mono ?_
  rintro e w1 ⟨rfl, rfl⟩
  rw [show justE 64 64 = 0 from rfl]
  go_wp2
  go_loopw [13] (fun i wr => ∃ k : Nat, k ≤ 16 ∧ i = .int .i64 k ∧ wr.heap[B]? = some (.cells (K .u32 (List.replicate 16 0)) 26 (0, 0)) ∧ wr.heap[B + 1]? = some (.cells (K .u32 (upto (wordsL zs 16) 16 k)) 26 (0, 0)) ∧ Below B w wr) (fun i _ => 16 - (intOf i).toNat)
  case atStart => exact ⟨0, Nat.zero_le _, rfl, N0.out, by simpa [upto] using N1.out, NB.out⟩
  case round =>
    obtain ⟨k, hk, rfl, n0, n1, hb⟩ := hrel
    clear N0 N1 NB HRW
    by_cases hlt : k < 16
    · have hsz := upto_set (wordsL zs 16) 16 k HL.out hlt
      rw [wordsL_get zs 16 k hlt] at hsz
      have hcall := HLD.out k wr hlt (HR.out.below (hB ▸ hb))
      have hup := upto_length _ _ _ HL.out hk
      have HC := TW.hide hcall
      have HS := TW.hide hsz
      have HU := TW.hide hup
      have G0 := TW.hide n0
      have G1 := TW.hide n1
      have GB := TW.hide hb
      clear n0 n1 hb hsz hcall hup
      generalize wd zs k = z at *
      have hk1 : (k : Int) < 16 := by omega
      go_wp2_with fail
      refine HC.out.mono ?_
      rintro e w1 ⟨rfl, hw1⟩
      have M0 : Hid (w1.heap[B]? = some (.cells (K .u32 (List.replicate 16 0)) 26 (0, 0))) := by rw [← hw1]; exact G0.out
      have M1 : Hid (w1.heap[B + 1]? = some (.cells (K .u32 (upto (wordsL zs 16) 16 k)) 26 (0, 0))) := by rw [← hw1]; exact G1.out
      have MB : Hid (Below B w w1) := by rw [← hw1]; exact GB.out
      have hc := blk_cellK M1.out (i := k) (by rw [HU.out]; exact hlt)
      have hf := blk_frozen M1.out (i := k)
      clear hw1 G0 G1 GB HC
      generalize (upto (wordsL zs 16) 16 k).getD k 0 = y at *
      go_wp2
      go_roundw
      case rel =>
        refine ⟨k + 1, by omega, by go_num, blk_other M0.out (by omega), ?_, MB.out.setCell (by simp) _⟩
        rw [← HS.out]; exact blk_setK M1.out
      case measure => simp [intOf]; omega
    · obtain rfl : k = 16 := by omega
      rw [upto_full _ _ HL.out] at n1
      have hi31 := info16 (wordsL zs 16) HL.out
      have HO := TW.hide (size16 (List.replicate 16 0) (wordsL zs 16) rfl HL.out)
      have HI2 := TW.hide hi31
      have HN := TW.hide n1
      have G0 := TW.hide n0
      have GB := TW.hide hb
      clear n0 n1 hb hi31
      go_wp2_with (first | (refine wpList_load_row (by rfl) 26 _ (by rfl) (B + 1) (by rfl) 26 (K .u32 (wordsL zs 16)) (0, 0) _ HN.out Tryd.underlying26 rfl HI2.out ?_) | (refine wpList_store_row (by rfl) 26 _ _ (by rfl) (B) (K .u32 (wordsL zs 16)) (by rfl) (by rfl) 26 _ G0.out HI2.out HO.out (K_one _ _) ?_))
      refine bodyPost_ret (v := .tuple #[.agg (K .u32 (wordsL zs 16)), .int .i64 0]) (results_row_tmp (P := Tryd.prog) Tryd.results9 _ _ B 26 _ (0, 0) _ _ (by rfl) (by rfl) (setRow_heap _ _ _ _ _ _ G0.out) Tryd.underlying26 rfl HI2.out) rfl ?_
      exact ⟨rfl, below_setRow GB.out (Nat.le_refl _)⟩
set_option maxRecDepth 100000 in
theorem wordsNo (a : Option Addr) (cap n : Nat) (w : World) (hn : n ≠ 64) :
    Calls Tryd.prog 9 #[.slice a n cap] w fun e w' => e = .returned (.tuple #[.agg (K .u32 (List.replicate 16 0)), .int .i64 (justE n 64)]) ∧ Below w.heap.size w w' := by
  have hb := (((Below.refl w.heap.size w).alloc (Nat.le_refl _) (.cells (K .u32 (List.replicate 16 0)) 26)).alloc (by simp; try omega) (.cells (K .u32 (List.replicate 16 0)) 26))
  have n0 := (blk_alloc (o' := .cells (K .u32 (List.replicate 16 0)) 26) (heap_new w (.cells (K .u32 (List.replicate 16 0)) 26)))
  have n1 := (heap_new (w.alloc (.cells (K .u32 (List.replicate 16 0)) 26)) (.cells (K .u32 (List.replicate 16 0)) 26))
  rw [show (w.alloc (.cells (K .u32 (List.replicate 16 0)) 26)).heap.size = w.heap.size + 1 by simp] at n1
  have hju := fun Y => just a n cap 64 Y
  have HJ := TW.hide hju
  clear hju
  have hje : (justE n 64 != 0) = true := by unfold justE; split <;> (try split) <;> first | rfl | (exfalso; omega)
  generalize justE n 64 = er at *
  go_enter Tryd.func9, Tryd.ntmps9
  refine wp_seq_k fun K hK => ?_
  have HK := TW.hide hK
  clear hK
  go_wp2
  refine HK.out _ _ ?_
  clear HK K
  refine wp_seq_k fun K hK => ?_
  have HK := TW.hide hK
  clear hK
  go_wp2
  refine HK.out _ _ ?_
  clear HK K
  change Code.wp _ _ _ _ ((w.alloc (.cells (K .u32 (List.replicate 16 0)) 26)).alloc (.cells (K .u32 (List.replicate 16 0)) 26))
  generalize hWW : (w.alloc (.cells (K .u32 (List.replicate 16 0)) 26)).alloc (.cells (K .u32 (List.replicate 16 0)) 26) = W at hb n0 n1 ⊢
  have hW : W.heap.size = w.heap.size + 1 + 1 := by rw [← hWW]; simp
  clear hWW
  generalize hB : w.heap.size = B at *
  have iu := info16 (List.replicate 16 0) rfl
  have N0 := TW.hide n0
  have N1 := TW.hide n1
  have NB := TW.hide hb
  have IU := TW.hide iu
  clear n0 n1 hb iu
  clear hW
  go_wp2_with fail
  refine (HJ.out _).mono ?_
  rintro e w1 ⟨rfl, rfl⟩
  go_wp2_with (first | (refine wpList_load_row (by rfl) 26 _ (by rfl) (B + 1) (by rfl) 26 (K .u32 (List.replicate 16 0)) (0, 0) _ N1.out Tryd.underlying26 rfl IU.out ?_) | (refine wpList_store_row (by rfl) 26 _ _ (by rfl) (B) (K .u32 (List.replicate 16 0)) (by rfl) (by rfl) 26 _ N0.out IU.out rfl (K_one _ _) ?_))
  refine bodyPost_ret (v := .tuple #[.agg (K .u32 (List.replicate 16 0)), .int .i64 er]) (results_row_tmp (P := Tryd.prog) Tryd.results9 _ _ B 26 _ (0, 0) _ _ (by rfl) (by rfl) (setRow_heap _ _ _ _ _ _ N0.out) Tryd.underlying26 rfl IU.out) rfl ?_
  exact ⟨rfl, below_setRow NB.out (Nat.le_refl _)⟩
set_option maxRecDepth 100000 in
set_option maxHeartbeats 2000000 in
theorem rwordsOk (a : Option Addr) (cap : Nat) (zs : List Int) (w : World) (hz : Byt zs) (hr : LW.Row w a zs) (hl : zs.length = 64) :
    Calls Tryd.prog 10 #[.slice a 64 cap] w fun e w' => e = .returned (.tuple #[.agg (K .u32 (wordsL zs 16)), .int .i64 0]) ∧ Below w.heap.size w w' := by
  have hld : ∀ (i : Nat) (X : World), i < 16 → LW.Row X a zs → Calls Tryd.prog 36 #[.slice a 64 cap, .int .i64 (4 * (i : Int))] X fun e w' => e = .returned (.int .u32 (wd zs i)) ∧ ∃ q, w' = X.drewN q := fun i X hi h => by
    have h1 := rload4 a cap zs i X hz h (by omega) (by rw [hl]; unfold maxLen; omega)
    rw [hl] at h1
    exact h1
  have hlw := wordsL_length zs 16
  have hb := (((Below.refl w.heap.size w).alloc (Nat.le_refl _) (.cells (K .u32 (List.replicate 16 0)) 26)).alloc (by simp; try omega) (.cells (K .u32 (List.replicate 16 0)) 26))
  have n0 := (blk_alloc (o' := .cells (K .u32 (List.replicate 16 0)) 26) (heap_new w (.cells (K .u32 (List.replicate 16 0)) 26)))
  have n1 := (heap_new (w.alloc (.cells (K .u32 (List.replicate 16 0)) 26)) (.cells (K .u32 (List.replicate 16 0)) 26))
  rw [show (w.alloc (.cells (K .u32 (List.replicate 16 0)) 26)).heap.size = w.heap.size + 1 by simp] at n1
  have HLD := TW.hide hld
  have HR := TW.hide hr
  have HL := TW.hide hlw
  clear hld hr hlw hz hl
  go_enter Tryd.func10, Tryd.ntmps10
  refine wp_seq_k fun K hK => ?_
  have HK := TW.hide hK
  clear hK
  go_wp2
  refine HK.out _ _ ?_
  clear HK K
  refine wp_seq_k fun K hK => ?_
  have HK := TW.hide hK
  clear hK
  go_wp2
  refine HK.out _ _ ?_
  clear HK K
  change Code.wp _ _ _ _ ((w.alloc (.cells (K .u32 (List.replicate 16 0)) 26)).alloc (.cells (K .u32 (List.replicate 16 0)) 26))
  generalize hWW : (w.alloc (.cells (K .u32 (List.replicate 16 0)) 26)).alloc (.cells (K .u32 (List.replicate 16 0)) 26) = W at hb n0 n1 ⊢
  have hW : W.heap.size = w.heap.size + 1 + 1 := by rw [← hWW]; simp
  clear hWW
  generalize hB : w.heap.size = B at *
  have HRW := TW.hide (HR.out.below (hB ▸ hb))
  have N0 := TW.hide n0
  have N1 := TW.hide n1
  have NB := TW.hide hb
  clear n0 n1 hb
  clear hW
  go_wp2
  go_loopw [5] (fun i wr => ∃ k : Nat, k ≤ 16 ∧ i = .int .i64 k ∧ wr.heap[B]? = some (.cells (K .u32 (List.replicate 16 0)) 26 (0, 0)) ∧ wr.heap[B + 1]? = some (.cells (K .u32 (upto (wordsL zs 16) 16 k)) 26 (0, 0)) ∧ Below B w wr) (fun i _ => 16 - (intOf i).toNat)
  case atStart => exact ⟨0, Nat.zero_le _, rfl, N0.out, by simpa [upto] using N1.out, NB.out⟩
  case round =>
    obtain ⟨k, hk, rfl, n0, n1, hb⟩ := hrel
    clear N0 N1 NB HRW
    by_cases hlt : k < 16
    · have hsz := upto_set (wordsL zs 16) 16 k HL.out hlt
      rw [wordsL_get zs 16 k hlt] at hsz
      have hcall := HLD.out k wr hlt (HR.out.below (hB ▸ hb))
      have hup := upto_length _ _ _ HL.out hk
      have HC := TW.hide hcall
      have HS := TW.hide hsz
      have HU := TW.hide hup
      have G0 := TW.hide n0
      have G1 := TW.hide n1
      have GB := TW.hide hb
      clear n0 n1 hb hsz hcall hup
      generalize wd zs k = z at *
      have hk1 : (k : Int) < 16 := by omega
      go_wp2_with fail
      refine HC.out.mono ?_
      rintro e w1 ⟨rfl, hw1⟩
      have M0 : Hid (w1.heap[B]? = some (.cells (K .u32 (List.replicate 16 0)) 26 (0, 0))) := by obtain ⟨q, rfl⟩ := hw1; exact G0.out
      have M1 : Hid (w1.heap[B + 1]? = some (.cells (K .u32 (upto (wordsL zs 16) 16 k)) 26 (0, 0))) := by obtain ⟨q, rfl⟩ := hw1; exact G1.out
      have MB : Hid (Below B w w1) := by obtain ⟨q, rfl⟩ := hw1; exact below_drewN GB.out q
      have hc := blk_cellK M1.out (i := k) (by rw [HU.out]; exact hlt)
      have hf := blk_frozen M1.out (i := k)
      clear hw1 G0 G1 GB HC
      generalize (upto (wordsL zs 16) 16 k).getD k 0 = y at *
      go_wp2
      go_roundw
      case rel =>
        refine ⟨k + 1, by omega, by go_num, blk_other M0.out (by omega), ?_, MB.out.setCell (by simp) _⟩
        rw [← HS.out]; exact blk_setK M1.out
      case measure => simp [intOf]; omega
    · obtain rfl : k = 16 := by omega
      rw [upto_full _ _ HL.out] at n1
      have hi31 := info16 (wordsL zs 16) HL.out
      have HO := TW.hide (size16 (List.replicate 16 0) (wordsL zs 16) rfl HL.out)
      have HI2 := TW.hide hi31
      have HN := TW.hide n1
      have G0 := TW.hide n0
      have GB := TW.hide hb
      clear n0 n1 hb hi31
      go_wp2_with (first | (refine wpList_load_row (by rfl) 26 _ (by rfl) (B + 1) (by rfl) 26 (K .u32 (wordsL zs 16)) (0, 0) _ HN.out Tryd.underlying26 rfl HI2.out ?_) | (refine wpList_store_row (by rfl) 26 _ _ (by rfl) (B) (K .u32 (wordsL zs 16)) (by rfl) (by rfl) 26 _ G0.out HI2.out HO.out (K_one _ _) ?_))
      refine bodyPost_ret (v := .tuple #[.agg (K .u32 (wordsL zs 16)), .int .i64 0]) (results_row_tmp (P := Tryd.prog) Tryd.results10 _ _ B 26 _ (0, 0) _ _ (by rfl) (by rfl) (setRow_heap _ _ _ _ _ _ G0.out) Tryd.underlying26 rfl HI2.out) rfl ?_
      exact ⟨rfl, below_setRow GB.out (Nat.le_refl _)⟩
set_option maxRecDepth 100000 in
theorem rwordsNo (a : Option Addr) (cap n : Nat) (w : World) (hn : n ≠ 64) :
    Calls Tryd.prog 10 #[.slice a n cap] w fun e w' => e = .returned (.tuple #[.agg (K .u32 (List.replicate 16 0)), .int .i64 (justE n 64)]) ∧ Below w.heap.size w w' := by
  have hb := (((Below.refl w.heap.size w).alloc (Nat.le_refl _) (.cells (K .u32 (List.replicate 16 0)) 26)).alloc (by simp; try omega) (.cells (K .u32 (List.replicate 16 0)) 26))
  have n0 := (blk_alloc (o' := .cells (K .u32 (List.replicate 16 0)) 26) (heap_new w (.cells (K .u32 (List.replicate 16 0)) 26)))
  have n1 := (heap_new (w.alloc (.cells (K .u32 (List.replicate 16 0)) 26)) (.cells (K .u32 (List.replicate 16 0)) 26))
  rw [show (w.alloc (.cells (K .u32 (List.replicate 16 0)) 26)).heap.size = w.heap.size + 1 by simp] at n1
  by_cases hlt : n < 64
  · rw [show justE n 64 = 3 by unfold justE; rw [if_pos hlt]]
    have h1 : (n : Int) < 64 := by omega
    clear hn hlt
    go_enter Tryd.func10, Tryd.ntmps10
    refine wp_seq_k fun K hK => ?_
    have HK := TW.hide hK
    clear hK
    go_wp2
    refine HK.out _ _ ?_
    clear HK K
    refine wp_seq_k fun K hK => ?_
    have HK := TW.hide hK
    clear hK
    go_wp2
    refine HK.out _ _ ?_
    clear HK K
    change Code.wp _ _ _ _ ((w.alloc (.cells (K .u32 (List.replicate 16 0)) 26)).alloc (.cells (K .u32 (List.replicate 16 0)) 26))
    generalize hWW : (w.alloc (.cells (K .u32 (List.replicate 16 0)) 26)).alloc (.cells (K .u32 (List.replicate 16 0)) 26) = W at hb n0 n1 ⊢
    have hW : W.heap.size = w.heap.size + 1 + 1 := by rw [← hWW]; simp
    clear hWW
    generalize hB : w.heap.size = B at *
    have iu := info16 (List.replicate 16 0) rfl
    have N0 := TW.hide n0
    have N1 := TW.hide n1
    have NB := TW.hide hb
    have IU := TW.hide iu
    clear n0 n1 hb iu
    clear hW
    go_wp2_with (first | (refine wpList_load_row (by rfl) 26 _ (by rfl) (B + 1) (by rfl) 26 (K .u32 (List.replicate 16 0)) (0, 0) _ N1.out Tryd.underlying26 rfl IU.out ?_) | (refine wpList_store_row (by rfl) 26 _ _ (by rfl) (B) (K .u32 (List.replicate 16 0)) (by rfl) (by rfl) 26 _ N0.out IU.out rfl (K_one _ _) ?_))
    refine bodyPost_ret (v := .tuple #[.agg (K .u32 (List.replicate 16 0)), .int .i64 3]) (results_row_tmp (P := Tryd.prog) Tryd.results10 _ _ B 26 _ (0, 0) _ _ (by rfl) (by rfl) (setRow_heap _ _ _ _ _ _ N0.out) Tryd.underlying26 rfl IU.out) rfl ?_
    exact ⟨rfl, below_setRow NB.out (Nat.le_refl _)⟩
  · rw [show justE n 64 = 2 by unfold justE; rw [if_neg hlt, if_pos (by omega)]]
    have h1 : ¬ (n : Int) < 64 := by omega
    have h2 : (64 : Int) < n := by omega
    clear hn hlt
    go_enter Tryd.func10, Tryd.ntmps10
    refine wp_seq_k fun K hK => ?_
    have HK := TW.hide hK
    clear hK
    go_wp2
    refine HK.out _ _ ?_
    clear HK K
    refine wp_seq_k fun K hK => ?_
    have HK := TW.hide hK
    clear hK
    go_wp2
    refine HK.out _ _ ?_
    clear HK K
    change Code.wp _ _ _ _ ((w.alloc (.cells (K .u32 (List.replicate 16 0)) 26)).alloc (.cells (K .u32 (List.replicate 16 0)) 26))
    generalize hWW : (w.alloc (.cells (K .u32 (List.replicate 16 0)) 26)).alloc (.cells (K .u32 (List.replicate 16 0)) 26) = W at hb n0 n1 ⊢
    have hW : W.heap.size = w.heap.size + 1 + 1 := by rw [← hWW]; simp
    clear hWW
    generalize hB : w.heap.size = B at *
    have iu := info16 (List.replicate 16 0) rfl
    have N0 := TW.hide n0
    have N1 := TW.hide n1
    have NB := TW.hide hb
    have IU := TW.hide iu
    clear n0 n1 hb iu
    clear hW
    go_wp2_with (first | (refine wpList_load_row (by rfl) 26 _ (by rfl) (B + 1) (by rfl) 26 (K .u32 (List.replicate 16 0)) (0, 0) _ N1.out Tryd.underlying26 rfl IU.out ?_) | (refine wpList_store_row (by rfl) 26 _ _ (by rfl) (B) (K .u32 (List.replicate 16 0)) (by rfl) (by rfl) 26 _ N0.out IU.out rfl (K_one _ _) ?_))
    refine bodyPost_ret (v := .tuple #[.agg (K .u32 (List.replicate 16 0)), .int .i64 2]) (results_row_tmp (P := Tryd.prog) Tryd.results10 _ _ B 26 _ (0, 0) _ _ (by rfl) (by rfl) (setRow_heap _ _ _ _ _ _ N0.out) Tryd.underlying26 rfl IU.out) rfl ?_
    exact ⟨rfl, below_setRow NB.out (Nat.le_refl _)⟩
end MX
end Go.Proofs.YtecepllidmkmhaaDoor
