/-
  The program's find and Size: PFind, PDig, PSiz in one.
-/
import Derived.Test.YtcpegipojkbcoaaSizesW
namespace Go.Proofs.Ytcpegipojkbcoaa
open Go.RowKit
set_option linter.unusedVariables false
set_option linter.unusedSimpArgs false
namespace LW
open Words
theorem cells17 {w : World} {b : Nat} {t : TypeId} {v0 v1 v2 v3 v4 v5 v6 v7 v8 v9 v10 v11 v12 v13 v14 v15 v16 : Value} (h : w.heap[b]? = some (.cells #[v0, v1, v2, v3, v4, v5, v6, v7, v8, v9, v10, v11, v12, v13, v14, v15, v16] t (0, 0))) : (w.cell? ⟨b, 0, none⟩ = some v0 ∧ w.cell? ⟨b, 1, none⟩ = some v1 ∧ w.cell? ⟨b, 2, none⟩ = some v2 ∧ w.cell? ⟨b, 3, none⟩ = some v3 ∧ w.cell? ⟨b, 4, none⟩ = some v4 ∧ w.cell? ⟨b, 5, none⟩ = some v5 ∧ w.cell? ⟨b, 6, none⟩ = some v6 ∧ w.cell? ⟨b, 7, none⟩ = some v7 ∧ w.cell? ⟨b, 8, none⟩ = some v8) ∧ w.cell? ⟨b, 9, none⟩ = some v9 ∧ (w.cell? ⟨b, 10, none⟩ = some v10 ∧ w.cell? ⟨b, 11, none⟩ = some v11 ∧ w.cell? ⟨b, 12, none⟩ = some v12 ∧ w.cell? ⟨b, 13, none⟩ = some v13 ∧ w.cell? ⟨b, 14, none⟩ = some v14 ∧ w.cell? ⟨b, 15, none⟩ = some v15) ∧ w.cell? ⟨b, 16, none⟩ = some v16 ∧ w.frozen? ⟨b, 16, none⟩ = false := by
  simp [World.cell?, World.frozen?, h]
theorem ow_slice {w : World} {B n s : Nat} {t : TypeId} {v : Value} {xs : List Value} (h : w.ownsRow B t s v n xs) : ∃ a k c, v = .slice a k c := by
  rcases h.2 with ⟨rfl, _⟩ | ⟨g, cap, cur, rfl, _⟩
  · exact ⟨_, _, _, rfl⟩
  · exact ⟨_, _, _, rfl⟩
/-- A block of another kind is not a row's. -/
theorem ow_nblk {w : World} {B n s g : Nat} {t t' : TypeId} {v : Value} {xs : List Value} {cs : Array Value} {fr : Nat × Nat} (h : w.ownsRow B t s v n xs) (hg : w.heap[g]? = some (.cells cs t' fr)) (ht : t ≠ t') : ∀ k, v.ownBlock = some k → k ≠ g := by
  intro k hk hkg
  rcases h.2 with ⟨rfl, _⟩ | ⟨g', cap, cur, rfl, _, hh, _⟩
  · simp [Value.ownBlock] at hk
  · simp [Value.ownBlock] at hk
    subst hk hkg
    have := hh.symm.trans hg
    simp at this
    exact ht this.2.1
theorem ow_setF {w : World} {B n s p o : Nat} {t : TypeId} {v u : Value} {xs : List Value} (h : w.ownsRow B t s v n xs) (hp : p < B) : (w.setCell ⟨p, o, none⟩ u).ownsRow B t s v n xs := by
  rcases h.2 with ⟨rfl, h0⟩ | ⟨g, cap, cur, rfl, hg, hh, hn, hm, hc, ht⟩
  · exact ⟨h.1, .inl ⟨rfl, h0⟩⟩
  · exact ⟨h.1, .inr ⟨g, cap, cur, rfl, hg, blk_other hh (by omega), hn, hm, hc, ht⟩⟩
theorem cells_sev_new (w : World) (t : TypeId) {a b c d e f g : Value} : ∀ j u, [a, b, c, d, e, f, g][j]? = some u → (w.alloc (.cells #[a, b, c, d, e, f, g] t)).cell? ((⟨w.heap.size, 0, none⟩ : Addr).add j) = some u := by
  intro j u hj
  rw [Addr.add_mid, Nat.zero_add]
  exact blk_cell (heap_alloc_new w (.cells #[a, b, c, d, e, f, g] t)) (by simpa using hj)
theorem forkinfo : (Try.prog.info? 74).map (fun i => (i.zero, i.size, i.bytes)) = some (some (.agg #[.int .i64 0, .int .u64 0, .int .u64 0, .int .u64 0, .bool false, .bool false, .int .u64 0]), 7, 48) := by kernel_rfl
/-- The cells of the i-th fork. -/
def foS (T : Tr) (n : Nat) (R : List Nat) (lf i : Nat) : Array Value := #[.int .i64 ((i + 1 : Nat) : Int), .int .u64 (aw T R lf (i + 1)), .int .u64 (wF T R lf (i + 1)), .int .u64 (wT T n R lf (i + 1)), .bool (laB R ((i + 1 : Nat) : Int) (aw T R lf (i + 1))), .bool (rtB R ((i + 1 : Nat) : Int)), .int .u64 (aw T R lf i)]
def foC (T : Tr) (n : Nat) (R : List Nat) (lf : Nat) : Nat → List Value
  | 0 => []
  | k + 1 => foC T n R lf k ++ (foS T n R lf k).toList
theorem foC_len (T : Tr) (n : Nat) (R : List Nat) (lf : Nat) : ∀ k, (foC T n R lf k).length = k * 7
  | 0 => rfl
  | k + 1 => by rw [foC, List.length_append, foC_len T n R lf k, show (foS T n R lf k).toList.length = 7 from rfl]; omega
theorem foC_get (T : Tr) (n : Nat) (R : List Nat) (lf : Nat) : ∀ k i c, i < k → c < 7 → (foC T n R lf k)[i * 7 + c]? = (foS T n R lf i).toList[c]?
  | 0, _, _, h, _ => by omega
  | k + 1, i, c, h, hc => by
    rw [foC]
    have hl := foC_len T n R lf k
    rcases Nat.lt_or_ge i k with h1 | h1
    · rw [List.getElem?_append_left (by omega)]
      exact foC_get T n R lf k i c h1 hc
    · obtain rfl : i = k := by omega
      rw [List.getElem?_append_right (by omega), hl]
      congr 1
      omega
set_option maxRecDepth 100000 in
set_option maxHeartbeats 2000000 in
theorem pfindE (T : Tr) (n lf : Nat) (E : Int) (hE : E ≠ 0) (H : ∀ W, Calls Try.prog 35 #[.agg (trC T), .int .u64 n, .int .i64 0, .int .u64 lf] W fun e w' => e = .returned (.tuple #[.agg (spC 0 0 0 0 false false), .int .i64 E]) ∧ Below W.heap.size W w') (w : World) : Calls Try.prog 14 #[.agg (trC T), .int .u64 n, .int .u64 lf] w fun e w' => e = .returned (.tuple #[.agg #[.int .i64 0, .int .i64 0, .int .i64 0, .int .i64 0, .int .u32 0, .int .i64 0, .slice none 0 0, .slice none 0 0, .slice none 0 0, .int .u64 0, .int .i64 0, .int .u64 0, .int .u64 0, .int .u64 0, .bool false, .bool false, .slice none 0 0], .int .i64 E]) ∧ Below w.heap.size w w' := by
  have HL := TW.hide H
  clear H
  rw [sp0] at HL
  unfold trC at *
  have n0 := heap_alloc_new w (.cells #[.int .i64 T.k, .int .i64 T.d, .int .i64 T.f, .int .i64 T.dp, .int .u32 T.lf, .int .i64 T.inn, .slice T.ka T.kl T.kc, .slice T.sa T.sl T.sc, .slice T.pa T.pl T.pc] 26)
  have hb0 := (Below.refl w.heap.size w).alloc (Nat.le_refl _) (.cells #[.int .i64 T.k, .int .i64 T.d, .int .i64 T.f, .int .i64 T.dp, .int .u32 T.lf, .int .i64 T.inn, .slice T.ka T.kl T.kc, .slice T.sa T.sl T.sc, .slice T.pa T.pl T.pc] 26)
  have n1 := heap_alloc_new (w.alloc (.cells #[.int .i64 T.k, .int .i64 T.d, .int .i64 T.f, .int .i64 T.dp, .int .u32 T.lf, .int .i64 T.inn, .slice T.ka T.kl T.kc, .slice T.sa T.sl T.sc, .slice T.pa T.pl T.pc] 26)) (.cells #[.int .i64 0, .int .i64 0, .int .i64 0, .int .i64 0, .int .u32 0, .int .i64 0, .slice none 0 0, .slice none 0 0, .slice none 0 0, .int .u64 0, .int .i64 0, .int .u64 0, .int .u64 0, .int .u64 0, .bool false, .bool false, .slice none 0 0] 53)
  rw [show (w.alloc (.cells #[.int .i64 T.k, .int .i64 T.d, .int .i64 T.f, .int .i64 T.dp, .int .u32 T.lf, .int .i64 T.inn, .slice T.ka T.kl T.kc, .slice T.sa T.sl T.sc, .slice T.pa T.pl T.pc] 26)).heap.size = w.heap.size + 1 by simp] at n1
  have n0 := blk_alloc (o' := .cells #[.int .i64 0, .int .i64 0, .int .i64 0, .int .i64 0, .int .u32 0, .int .i64 0, .slice none 0 0, .slice none 0 0, .slice none 0 0, .int .u64 0, .int .i64 0, .int .u64 0, .int .u64 0, .int .u64 0, .bool false, .bool false, .slice none 0 0] 53) n0
  have hb1 := hb0.alloc hb0.size (.cells #[.int .i64 0, .int .i64 0, .int .i64 0, .int .i64 0, .int .u32 0, .int .i64 0, .slice none 0 0, .slice none 0 0, .slice none 0 0, .int .u64 0, .int .i64 0, .int .u64 0, .int .u64 0, .int .u64 0, .bool false, .bool false, .slice none 0 0] 53)
  have N0 := TW.hide n0
  have N1 := TW.hide n1
  have NB := TW.hide hb1
  clear n0 n1 hb0 hb1
  go_enter Try.func14, Try.ntmps14
  refine wp_seq_k fun K hK => ?_
  have HK := TW.hide hK
  clear hK
  go_wp2_with fail
  refine HK.out _ _ ?_
  clear HK K
  generalize (w.alloc _).alloc _ = X at *
  obtain ⟨c0, c1, c2, c3, c4, c5, c6, c7, c8⟩ := cells9 N0.out
  refine wp_seq_k fun K hK => ?_
  have HK := TW.hide hK
  clear hK
  go_wp2_with fail
  refine (HL.out _).mono ?_
  rintro e1 w1 ⟨rfl, hb⟩
  clear c0 c1 c2 c3 c4 c5 c6 c7 c8 HL
  have NB1 : Hid (Below w.heap.size w (w1.alloc (.cells #[.int .i64 0, .int .u64 0, .int .u64 0, .int .u64 0, .bool false, .bool false] 50))) := (NB.out.trans (hb.mono NB.out.size)).alloc (by have := (NB.out.trans (hb.mono NB.out.size)).size; omega) _
  have N1 := TW.hide (blk_alloc (o' := .cells #[.int .i64 0, .int .u64 0, .int .u64 0, .int .u64 0, .bool false, .bool false] 50) (blk_keep N1.out hb))
  clear N0 NB hb
  go_wp2
  refine HK.out _ _ ?_
  clear HK K
  generalize w1.alloc _ = V at *
  have hE' : (E != 0) = true := by simp [hE]
  go_wp2_with (refine wpList_store_row (by rfl) 53 _ _ (by rfl) (w.heap.size + 1) #[.int .i64 0, .int .i64 0, .int .i64 0, .int .i64 0, .int .u32 0, .int .i64 0, .slice none 0 0, .slice none 0 0, .slice none 0 0, .int .u64 0, .int .i64 0, .int .u64 0, .int .u64 0, .int .u64 0, .bool false, .bool false, .slice none 0 0] (by rfl) (by rfl) 53 _ N1.out (by kernel_rfl) (by rfl) (by simp [Value.oneCell']) ?_)
  refine bodyPost_ret (v := .tuple #[.agg #[.int .i64 0, .int .i64 0, .int .i64 0, .int .i64 0, .int .u32 0, .int .i64 0, .slice none 0 0, .slice none 0 0, .slice none 0 0, .int .u64 0, .int .i64 0, .int .u64 0, .int .u64 0, .int .u64 0, .bool false, .bool false, .slice none 0 0], .int .i64 E]) (results_row_tmp (P := Try.prog) Try.results14 _ _ (w.heap.size + 1) 53 _ (0, 0) _ _ (by rfl) (by rfl) (setRow_heap _ _ _ _ _ _ N1.out) Try.underlying53 rfl (by kernel_rfl)) rfl ?_
  exact ⟨rfl, below_setRow NB1.out (by omega)⟩
/-- The row of the node that a block holds. -/
def rowAt (w : World) (g : Nat) : Nat := match w.cell? ⟨g, 0, none⟩ with
  | some v => (intOf v).toNat
  | none => 0
theorem rowAt_of {w : World} {g : Nat} {i : Int} (h : w.cell? ⟨g, 0, none⟩ = some (.int .i64 i)) : rowAt w g = i.toNat := by
  unfold rowAt
  rw [h]
  rfl
set_option maxRecDepth 100000 in
set_option maxHeartbeats 2000000 in
theorem pfindOk (T : Tr) (hT : 0 ≤ T.lf ∧ T.lf < 4294967296) (n : Nat) (hn : n < 18446744073709551616) (R : List Nat) (lf len : Nat) (hlen : R.length = len) (h255 : len ≤ 255) (htwo : 2 ≤ len)
    (HS : ∀ i, i < len → ∀ W, Calls Try.prog 35 #[.agg (trC T), .int .u64 n, .int .i64 (i : Int), .int .u64 (aw T R lf i)] W fun e w' => e = .returned (.tuple #[.agg (waS T n R lf i), .int .i64 0]) ∧ Below W.heap.size W w')
    (HP : ∀ i, i + 1 < len → ∀ W, Calls Try.prog 36 #[.agg (trC T), .int .u64 n, .int .i64 (i : Int), .int .u64 (aw T R lf i)] W fun e w' => e = .returned (.tuple #[.int .u64 (aw T R lf (i + 1)), .int .i64 0]) ∧ Below W.heap.size W w') (w : World) :
    Calls Try.prog 14 #[.agg (trC T), .int .u64 n, .int .u64 lf] w fun e w' => ∃ v fr to la, e = .returned (.tuple #[.agg #[.int .i64 T.k, .int .i64 T.d, .int .i64 T.f, .int .i64 T.dp, .int .u32 T.lf, .int .i64 T.inn, .slice T.ka T.kl T.kc, .slice T.sa T.sl T.sc, .slice T.pa T.pl T.pc, .int .u64 n, .int .i64 0, .int .u64 lf, .int .u64 fr, .int .u64 to, .bool la, .bool false, v], .int .i64 0]) ∧ w'.ownsRow w.heap.size 74 7 v (len - 1) (foC T n R lf (len - 1)) ∧ Below w.heap.size w w' := by
  have HS1 := TW.hide HS
  have HP1 := TW.hide HP
  clear HS HP
  have HS0 := TW.hide (HS1.out 0 (by omega))
  have hr0 : rtB R ((0 : Nat) : Int) = false := by unfold rtB; rw [Int.toNat_natCast, hlen]; simp; omega
  have HRT : Hid (∀ i : Nat, rtB R (i : Int) = decide (i + 1 = len)) := fun i => by unfold rtB; rw [Int.toNat_natCast, hlen]
  obtain ⟨i0, hi, hz0, hz1, hz2⟩ := info_parts forkinfo
  clear hlen
  have HFC : Hid (∀ i, foC T n R lf (i + 1) = foC T n R lf i ++ (foS T n R lf i).toList) := fun i => rfl
  have hF0 : foC T n R lf 0 = [] := rfl
  have HFS : Hid (∀ i, ∃ fr to la, waS T n R lf (i + 1) = #[.int .i64 ((i + 1 : Nat) : Int), .int .u64 (aw T R lf (i + 1)), .int .u64 fr, .int .u64 to, .bool la, .bool (rtB R ((i + 1 : Nat) : Int))] ∧ (foS T n R lf i).toList = [.int .i64 ((i + 1 : Nat) : Int), .int .u64 (aw T R lf (i + 1)), .int .u64 fr, .int .u64 to, .bool la, .bool (rtB R ((i + 1 : Nat) : Int)), .int .u64 (aw T R lf i)]) := fun i => ⟨_, _, _, rfl, rfl⟩
  have HF0 := TW.hide hF0
  clear hF0
  generalize foS T n R lf = FS at *
  generalize foC T n R lf = FC at *
  generalize hS : waS T n R lf = WS at *
  have HWS : Hid (∀ i : Nat, ∃ fr to la, WS i = #[.int .i64 (i : Int), .int .u64 (aw T R lf i), .int .u64 fr, .int .u64 to, .bool la, .bool (rtB R (i : Int))]) := fun i => ⟨_, _, _, by rw [← hS]; rfl⟩
  have ha0 : aw T R lf 0 = lf := rfl
  generalize aw T R lf = AW at *
  clear hS
  obtain ⟨fr, to, la, e0⟩ := HWS.out 0
  rw [e0] at HS0
  rw [ha0, hr0] at HS0 e0
  rw [show ((0 : Nat) : Int) = 0 from rfl] at HS0 e0
  have HE0 := TW.hide e0
  clear hr0 e0
  unfold trC at *
  have n0 := heap_alloc_new w (.cells #[.int .i64 T.k, .int .i64 T.d, .int .i64 T.f, .int .i64 T.dp, .int .u32 T.lf, .int .i64 T.inn, .slice T.ka T.kl T.kc, .slice T.sa T.sl T.sc, .slice T.pa T.pl T.pc] 26)
  have hb0 := (Below.refl w.heap.size w).alloc (Nat.le_refl _) (.cells #[.int .i64 T.k, .int .i64 T.d, .int .i64 T.f, .int .i64 T.dp, .int .u32 T.lf, .int .i64 T.inn, .slice T.ka T.kl T.kc, .slice T.sa T.sl T.sc, .slice T.pa T.pl T.pc] 26)
  have n1 := heap_alloc_new (w.alloc (.cells #[.int .i64 T.k, .int .i64 T.d, .int .i64 T.f, .int .i64 T.dp, .int .u32 T.lf, .int .i64 T.inn, .slice T.ka T.kl T.kc, .slice T.sa T.sl T.sc, .slice T.pa T.pl T.pc] 26)) (.cells #[.int .i64 0, .int .i64 0, .int .i64 0, .int .i64 0, .int .u32 0, .int .i64 0, .slice none 0 0, .slice none 0 0, .slice none 0 0, .int .u64 0, .int .i64 0, .int .u64 0, .int .u64 0, .int .u64 0, .bool false, .bool false, .slice none 0 0] 53)
  rw [show (w.alloc (.cells #[.int .i64 T.k, .int .i64 T.d, .int .i64 T.f, .int .i64 T.dp, .int .u32 T.lf, .int .i64 T.inn, .slice T.ka T.kl T.kc, .slice T.sa T.sl T.sc, .slice T.pa T.pl T.pc] 26)).heap.size = w.heap.size + 1 by simp] at n1
  have n0 := blk_alloc (o' := .cells #[.int .i64 0, .int .i64 0, .int .i64 0, .int .i64 0, .int .u32 0, .int .i64 0, .slice none 0 0, .slice none 0 0, .slice none 0 0, .int .u64 0, .int .i64 0, .int .u64 0, .int .u64 0, .int .u64 0, .bool false, .bool false, .slice none 0 0] 53) n0
  have hb1 := hb0.alloc hb0.size (.cells #[.int .i64 0, .int .i64 0, .int .i64 0, .int .i64 0, .int .u32 0, .int .i64 0, .slice none 0 0, .slice none 0 0, .slice none 0 0, .int .u64 0, .int .i64 0, .int .u64 0, .int .u64 0, .int .u64 0, .bool false, .bool false, .slice none 0 0] 53)
  have N0 := TW.hide n0
  have N1 := TW.hide n1
  have NB := TW.hide hb1
  clear n0 n1 hb0 hb1
  go_enter Try.func14, Try.ntmps14
  refine wp_seq_k fun K hK => ?_
  have HK := TW.hide hK
  clear hK
  go_wp2_with fail
  refine HK.out _ _ ?_
  clear HK K
  generalize (w.alloc _).alloc _ = X at *
  obtain ⟨c0, c1, c2, c3, c4, c5, c6, c7, c8⟩ := cells9 N0.out
  refine wp_seq_k fun K hK => ?_
  have HK := TW.hide hK
  clear hK
  go_wp2_with fail
  refine (HS0.out _).mono ?_
  rintro e1 w1 ⟨rfl, hb⟩
  clear c0 c1 c2 c3 c4 c5 c6 c7 c8 HS0
  have HG : Hid (w.heap.size + 1 < w1.heap.size) := Nat.lt_of_lt_of_le (blk_lt N1.out) hb.size
  have NB1 : Hid (Below w.heap.size w (w1.alloc (.cells #[.int .i64 0, .int .u64 lf, .int .u64 fr, .int .u64 to, .bool la, .bool false] 50))) := (NB.out.trans (hb.mono NB.out.size)).alloc (by have := (NB.out.trans (hb.mono NB.out.size)).size; omega) _
  have M1 := TW.hide (blk_alloc (o' := .cells #[.int .i64 0, .int .u64 lf, .int .u64 fr, .int .u64 to, .bool la, .bool false] 50) (blk_keep N1.out hb))
  have M0 := TW.hide (blk_alloc (o' := .cells #[.int .i64 0, .int .u64 lf, .int .u64 fr, .int .u64 to, .bool la, .bool false] 50) (blk_keep N0.out hb))
  have MG := TW.hide (heap_alloc_new w1 (.cells #[.int .i64 0, .int .u64 lf, .int .u64 fr, .int .u64 to, .bool la, .bool false] 50))
  have hgs : (w1.alloc (.cells #[.int .i64 0, .int .u64 lf, .int .u64 fr, .int .u64 to, .bool la, .bool false] 50)).heap.size = w1.heap.size + 1 := by simp
  have HGS := TW.hide hgs
  clear N0 N1 NB hb hgs
  go_wp2
  refine HK.out _ _ ?_
  clear HK K
  generalize w1.alloc _ = V at *
  generalize w1.heap.size = g at *
  obtain ⟨c0, c1, c2, c3, c4, c5, c6, c7, c8⟩ := cells9 M0.out
  obtain ⟨⟨s0, s1, s2, s3, s4, s5⟩, z2, z3⟩ := cells6f MG.out
  refine wp_seq_k fun K hK => ?_
  have HK := TW.hide hK
  clear hK
  go_wp2
  refine HK.out _ _ ?_
  clear HK K
  refine wp_seq_k fun K hK => ?_
  have HK := TW.hide hK
  clear hK
  have hA : Below V.heap.size V (((V).alloc (.cells #[.int .i64 0, .int .i64 0, .int .i64 0, .int .i64 0, .int .u32 0, .int .i64 0, .slice none 0 0, .slice none 0 0, .slice none 0 0, .int .u64 0, .int .i64 0, .int .u64 0, .int .u64 0, .int .u64 0, .bool false, .bool false, .slice none 0 0] 53)).setRow V.heap.size #[.int .i64 T.k, .int .i64 T.d, .int .i64 T.f, .int .i64 T.dp, .int .u32 T.lf, .int .i64 T.inn, .slice T.ka T.kl T.kc, .slice T.sa T.sl T.sc, .slice T.pa T.pl T.pc, .int .u64 n, .int .i64 0, .int .u64 lf, .int .u64 fr, .int .u64 to, .bool la, .bool false, .slice none 0 0]) := below_setRow ((Below.refl _ _).alloc (Nat.le_refl _) _) (Nat.le_refl _)
  have P0 := TW.hide (blk_keep M0.out hA)
  have P1 := TW.hide (blk_keep M1.out hA)
  have PG := TW.hide (blk_keep MG.out hA)
  have PB : Hid (Below w.heap.size w (((V).alloc (.cells #[.int .i64 0, .int .i64 0, .int .i64 0, .int .i64 0, .int .u32 0, .int .i64 0, .slice none 0 0, .slice none 0 0, .slice none 0 0, .int .u64 0, .int .i64 0, .int .u64 0, .int .u64 0, .int .u64 0, .bool false, .bool false, .slice none 0 0] 53)).setRow V.heap.size #[.int .i64 T.k, .int .i64 T.d, .int .i64 T.f, .int .i64 T.dp, .int .u32 T.lf, .int .i64 T.inn, .slice T.ka T.kl T.kc, .slice T.sa T.sl T.sc, .slice T.pa T.pl T.pc, .int .u64 n, .int .i64 0, .int .u64 lf, .int .u64 fr, .int .u64 to, .bool la, .bool false, .slice none 0 0])) := NB1.out.trans (hA.mono NB1.out.size)
  have PW : Hid ((((V).alloc (.cells #[.int .i64 0, .int .i64 0, .int .i64 0, .int .i64 0, .int .u32 0, .int .i64 0, .slice none 0 0, .slice none 0 0, .slice none 0 0, .int .u64 0, .int .i64 0, .int .u64 0, .int .u64 0, .int .u64 0, .bool false, .bool false, .slice none 0 0] 53)).setRow V.heap.size #[.int .i64 T.k, .int .i64 T.d, .int .i64 T.f, .int .i64 T.dp, .int .u32 T.lf, .int .i64 T.inn, .slice T.ka T.kl T.kc, .slice T.sa T.sl T.sc, .slice T.pa T.pl T.pc, .int .u64 n, .int .i64 0, .int .u64 lf, .int .u64 fr, .int .u64 to, .bool la, .bool false, .slice none 0 0]).heap[g + 1]? = some (.cells #[.int .i64 T.k, .int .i64 T.d, .int .i64 T.f, .int .i64 T.dp, .int .u32 T.lf, .int .i64 T.inn, .slice T.ka T.kl T.kc, .slice T.sa T.sl T.sc, .slice T.pa T.pl T.pc, .int .u64 n, .int .i64 0, .int .u64 lf, .int .u64 fr, .int .u64 to, .bool la, .bool false, .slice none 0 0] 53 (0, 0))) := by
    have h : (((V).alloc (.cells #[.int .i64 0, .int .i64 0, .int .i64 0, .int .i64 0, .int .u32 0, .int .i64 0, .slice none 0 0, .slice none 0 0, .slice none 0 0, .int .u64 0, .int .i64 0, .int .u64 0, .int .u64 0, .int .u64 0, .bool false, .bool false, .slice none 0 0] 53)).setRow V.heap.size #[.int .i64 T.k, .int .i64 T.d, .int .i64 T.f, .int .i64 T.dp, .int .u32 T.lf, .int .i64 T.inn, .slice T.ka T.kl T.kc, .slice T.sa T.sl T.sc, .slice T.pa T.pl T.pc, .int .u64 n, .int .i64 0, .int .u64 lf, .int .u64 fr, .int .u64 to, .bool la, .bool false, .slice none 0 0]).heap[V.heap.size]? = some (.cells #[.int .i64 T.k, .int .i64 T.d, .int .i64 T.f, .int .i64 T.dp, .int .u32 T.lf, .int .i64 T.inn, .slice T.ka T.kl T.kc, .slice T.sa T.sl T.sc, .slice T.pa T.pl T.pc, .int .u64 n, .int .i64 0, .int .u64 lf, .int .u64 fr, .int .u64 to, .bool la, .bool false, .slice none 0 0] 53 (0, 0)) := setRow_heap _ _ _ _ _ _ (heap_alloc_new V _)
    rwa [show (((V).alloc (.cells #[.int .i64 0, .int .i64 0, .int .i64 0, .int .i64 0, .int .u32 0, .int .i64 0, .slice none 0 0, .slice none 0 0, .slice none 0 0, .int .u64 0, .int .i64 0, .int .u64 0, .int .u64 0, .int .u64 0, .bool false, .bool false, .slice none 0 0] 53)).setRow V.heap.size #[.int .i64 T.k, .int .i64 T.d, .int .i64 T.f, .int .i64 T.dp, .int .u32 T.lf, .int .i64 T.inn, .slice T.ka T.kl T.kc, .slice T.sa T.sl T.sc, .slice T.pa T.pl T.pc, .int .u64 n, .int .i64 0, .int .u64 lf, .int .u64 fr, .int .u64 to, .bool la, .bool false, .slice none 0 0]).heap[V.heap.size]? = (((V).alloc (.cells #[.int .i64 0, .int .i64 0, .int .i64 0, .int .i64 0, .int .u32 0, .int .i64 0, .slice none 0 0, .slice none 0 0, .slice none 0 0, .int .u64 0, .int .i64 0, .int .u64 0, .int .u64 0, .int .u64 0, .bool false, .bool false, .slice none 0 0] 53)).setRow V.heap.size #[.int .i64 T.k, .int .i64 T.d, .int .i64 T.f, .int .i64 T.dp, .int .u32 T.lf, .int .i64 T.inn, .slice T.ka T.kl T.kc, .slice T.sa T.sl T.sc, .slice T.pa T.pl T.pc, .int .u64 n, .int .i64 0, .int .u64 lf, .int .u64 fr, .int .u64 to, .bool la, .bool false, .slice none 0 0]).heap[g + 1]? by rw [← HGS.out]] at h
  have hV := HGS.out
  clear HGS hA
  have HV := TW.hide hV
  clear M0 M1 MG NB1 hV
  go_wp2_with (refine wpList_store_row (by rfl) 53 _ _ (by rfl) V.heap.size #[.int .i64 T.k, .int .i64 T.d, .int .i64 T.f, .int .i64 T.dp, .int .u32 T.lf, .int .i64 T.inn, .slice T.ka T.kl T.kc, .slice T.sa T.sl T.sc, .slice T.pa T.pl T.pc, .int .u64 n, .int .i64 0, .int .u64 lf, .int .u64 fr, .int .u64 to, .bool la, .bool false, .slice none 0 0] (by rfl) (by rfl) 53 _ (heap_alloc_new V _) (by kernel_rfl) (by rfl) (by simp [Value.oneCell']) ?_)
  refine HK.out _ _ ?_
  clear HK K
  try simp only [Act.put, List.setIfInBounds_toArray, List.set_cons_zero, List.set_cons_succ, List.getElem_toArray, List.getElem_cons_zero, List.getElem_cons_succ]
  have o0 : ((((V).alloc (.cells #[.int .i64 0, .int .i64 0, .int .i64 0, .int .i64 0, .int .u32 0, .int .i64 0, .slice none 0 0, .slice none 0 0, .slice none 0 0, .int .u64 0, .int .i64 0, .int .u64 0, .int .u64 0, .int .u64 0, .bool false, .bool false, .slice none 0 0] 53)).setRow V.heap.size #[.int .i64 T.k, .int .i64 T.d, .int .i64 T.f, .int .i64 T.dp, .int .u32 T.lf, .int .i64 T.inn, .slice T.ka T.kl T.kc, .slice T.sa T.sl T.sc, .slice T.pa T.pl T.pc, .int .u64 n, .int .i64 0, .int .u64 lf, .int .u64 fr, .int .u64 to, .bool la, .bool false, .slice none 0 0])).ownsRow (g + 2) 74 7 (.slice none 0 0) 0 [] := ⟨rfl, .inl ⟨rfl, rfl⟩⟩
  have PO := TW.hide o0
  clear o0 c0 c1 c2 c3 c4 c5 c6 c7 c8 s0 s1 s2 s3 s4 s5 z2 z3
  generalize World.setRow _ _ _ = Y at *
  rw [HV.out]
  clear HV
  generalize (Value.agg #[.int .i64 T.k, .int .i64 T.d, .int .i64 T.f, .int .i64 T.dp, .int .u32 T.lf, .int .i64 T.inn, .slice T.ka T.kl T.kc, .slice T.sa T.sl T.sc, .slice T.pa T.pl T.pc, .int .u64 n, .int .i64 0, .int .u64 lf, .int .u64 fr, .int .u64 to, .bool la, .bool false, .slice none 0 0]) = q1
  generalize (Value.tuple #[.agg #[.int .i64 0, .int .u64 lf, .int .u64 fr, .int .u64 to, .bool la, .bool false], .int .i64 0]) = q2
  generalize (Value.agg #[.int .i64 0, .int .u64 lf, .int .u64 fr, .int .u64 to, .bool la, .bool false]) = q3
  generalize (Value.agg #[.int .i64 T.k, .int .i64 T.d, .int .i64 T.f, .int .i64 T.dp, .int .u32 T.lf, .int .i64 T.inn, .slice T.ka T.kl T.kc, .slice T.sa T.sl T.sc, .slice T.pa T.pl T.pc]) = q4
  refine wp_seq_k fun K hK => ?_
  have HK := TW.hide hK
  clear hK
  go_wp2
  go_loopw [11, 12, 13, 14] (fun x1 x2 x3 x4 wr => ∃ (i : Nat) (v : Value), i < len ∧ wr.ownsRow (g + 2) 74 7 v i (FC i) ∧ wr.heap[g]? = some (.cells (WS i) 50 (0, 0)) ∧ wr.heap[g + 1]? = some (.cells #[.int .i64 T.k, .int .i64 T.d, .int .i64 T.f, .int .i64 T.dp, .int .u32 T.lf, .int .i64 T.inn, .slice T.ka T.kl T.kc, .slice T.sa T.sl T.sc, .slice T.pa T.pl T.pc, .int .u64 n, .int .i64 0, .int .u64 lf, .int .u64 fr, .int .u64 to, .bool la, .bool false, v] 53 (0, 0)) ∧ wr.heap[w.heap.size]? = some (.cells #[.int .i64 T.k, .int .i64 T.d, .int .i64 T.f, .int .i64 T.dp, .int .u32 T.lf, .int .i64 T.inn, .slice T.ka T.kl T.kc, .slice T.sa T.sl T.sc, .slice T.pa T.pl T.pc] 26 (0, 0)) ∧ wr.heap[w.heap.size + 1]? = some (.cells #[.int .i64 0, .int .i64 0, .int .i64 0, .int .i64 0, .int .u32 0, .int .i64 0, .slice none 0 0, .slice none 0 0, .slice none 0 0, .int .u64 0, .int .i64 0, .int .u64 0, .int .u64 0, .int .u64 0, .bool false, .bool false, .slice none 0 0] 53 (0, 0)) ∧ Below w.heap.size w wr)
    (fun x1 x2 x3 x4 wr => len - rowAt wr g)
  case atStart => exact ⟨0, _, by omega, by rw [HF0.out]; exact PO.out, by rw [HE0.out]; exact PG.out, PW.out, P0.out, P1.out, PB.out⟩
  case round =>
    obtain ⟨i, v, hil, ho, hgs, hgw, hn0, hn1, hB⟩ := hrel
    clear P0 P1 PG PB PW PO HE0 HF0
    obtain ⟨fr1, to1, la1, ei⟩ := HWS.out i
    rw [ei, HRT.out] at hgs
    clear ei
    obtain ⟨av, kv, cv, rfl⟩ := ow_slice ho
    have N0 := TW.hide hn0
    have N1 := TW.hide hn1
    have HRW : Hid (rowAt wr g = i) := by
      show _ = _
      rw [rowAt_of (cells6f hgs).1.1]
      omega
    have NG := TW.hide hgs
    have NW := TW.hide hgw
    have NB := TW.hide hB
    have NO := TW.hide ho
    clear hn0 hn1 hgs hgw hB ho
    have HLT := TW.hide hil
    clear hil
    by_cases hlast : i + 1 = len
    · rw [decide_eq_true hlast] at NG
      obtain ⟨⟨s0, s1, s2, s3, s4, s5⟩, z2, z3⟩ := cells6f NG.out
      have HLA := TW.hide hlast
      clear hlast htwo h255
      go_wp2
      refine HK.out _ _ ?_
      clear HK s0 s1 s2 s3 s4 s5 z2 z3
      go_wp2_with (first | (refine wpList_load_row (by rfl) 53 _ (by rfl) (g + 1) (by rfl) 53 #[.int .i64 T.k, .int .i64 T.d, .int .i64 T.f, .int .i64 T.dp, .int .u32 T.lf, .int .i64 T.inn, .slice T.ka T.kl T.kc, .slice T.sa T.sl T.sc, .slice T.pa T.pl T.pc, .int .u64 n, .int .i64 0, .int .u64 lf, .int .u64 fr, .int .u64 to, .bool la, .bool false, .slice av kv cv] (0, 0) _ NW.out Try.underlying53 rfl (by kernel_rfl) ?_) | refine wpList_store_row (by rfl) 53 _ _ (by rfl) (w.heap.size + 1) #[.int .i64 T.k, .int .i64 T.d, .int .i64 T.f, .int .i64 T.dp, .int .u32 T.lf, .int .i64 T.inn, .slice T.ka T.kl T.kc, .slice T.sa T.sl T.sc, .slice T.pa T.pl T.pc, .int .u64 n, .int .i64 0, .int .u64 lf, .int .u64 fr, .int .u64 to, .bool la, .bool false, .slice av kv cv] (by rfl) (by rfl) 53 _ N1.out (by kernel_rfl) (by rfl) (by simp [Value.oneCell']) ?_)
      refine bodyPost_ret (v := .tuple #[.agg #[.int .i64 T.k, .int .i64 T.d, .int .i64 T.f, .int .i64 T.dp, .int .u32 T.lf, .int .i64 T.inn, .slice T.ka T.kl T.kc, .slice T.sa T.sl T.sc, .slice T.pa T.pl T.pc, .int .u64 n, .int .i64 0, .int .u64 lf, .int .u64 fr, .int .u64 to, .bool la, .bool false, .slice av kv cv], .int .i64 0]) (results_row_tmp (P := Try.prog) Try.results14 _ _ (w.heap.size + 1) 53 _ (0, 0) _ _ (by rfl) (by rfl) (setRow_heap _ _ _ _ _ _ N1.out) Try.underlying53 rfl (by kernel_rfl)) rfl ?_
      refine ⟨_, _, _, _, rfl, ?_, below_setRow NB.out (by omega)⟩
      rw [show len - 1 = i by have := HLA.out; omega]
      exact ow_base (ow_other NO.out (by have := HG.out; omega)) (by have := HG.out; omega)
    · rw [decide_eq_false hlast] at NG
      have hi1 : i + 1 < len := by have := HLT.out; omega
      have HC1 := TW.hide (HP1.out i hi1)
      have HC2 := TW.hide (HS1.out (i + 1) hi1)
      have HI1 := TW.hide hi1
      have H255 := TW.hide h255
      have hw1 : IntKind.i64.wrap ((i : Int) + 1) = ((i + 1 : Nat) : Int) := by rw [IntKind.wrap_i64]; omega
      obtain ⟨fr2, to2, la2, ei2, ef2⟩ := HFS.out i
      rw [ei2] at HC2
      have HEI := TW.hide ei2
      have HEF := TW.hide ef2
      clear ei2 ef2 hlast hi1 h255 htwo HLT
      generalize rtB R ((i + 1 : Nat) : Int) = ro2 at *
      generalize hJ : ((i + 1 : Nat) : Int) = J at *
      have HJ := TW.hide hJ
      clear hJ
      generalize AW i = a1 at *
      generalize AW (i + 1) = a2 at *
      obtain ⟨c0, c1, c2, c3, c4, c5, c6, c7, c8⟩ := cells9 N0.out
      obtain ⟨⟨s0, s1, s2, s3, s4, s5⟩, z2, z3⟩ := cells6f NG.out
      go_wp2_with fail
      refine (HC1.out _).mono ?_
      rintro e1 w1 ⟨rfl, hb⟩
      clear c0 c1 c2 c3 c4 c5 c6 c7 c8 s0 s1 s2 s3 s4 s5 z2 z3 HC1
      have N0 := TW.hide (blk_keep N0.out hb)
      have N1 := TW.hide (blk_keep N1.out hb)
      have HG2 := TW.hide (Nat.lt_of_lt_of_le (blk_lt NW.out) hb.size)
      have NG := TW.hide (blk_keep NG.out hb)
      have NW := TW.hide (blk_keep NW.out hb)
      have NO := TW.hide (ow_below NO.out hb)
      have NB : Hid (Below w.heap.size w w1) := NB.out.trans (hb.mono NB.out.size)
      clear hb
      obtain ⟨c0, c1, c2, c3, c4, c5, c6, c7, c8⟩ := cells9 N0.out
      obtain ⟨⟨s0, s1, s2, s3, s4, s5⟩, z2, z3⟩ := cells6f NG.out
      go_wp2_with fail
      refine (HC2.out _).mono ?_
      rintro e2 w2 ⟨rfl, hb⟩
      clear c0 c1 c2 c3 c4 c5 c6 c7 c8 s0 s1 s2 s3 s4 s5 z2 z3 HC2
      have N0 := TW.hide (blk_keep N0.out hb)
      have N1 := TW.hide (blk_keep N1.out hb)
      have HG2 := TW.hide (Nat.lt_of_lt_of_le (blk_lt NW.out) hb.size)
      have NG := TW.hide (blk_keep NG.out hb)
      have NW := TW.hide (blk_keep NW.out hb)
      have NO := TW.hide (ow_below NO.out hb)
      have NB : Hid (Below w.heap.size w w2) := NB.out.trans (hb.mono NB.out.size)
      clear hb
      have hA : Below w2.heap.size w2 (w2.alloc (.cells #[.int .i64 J, .int .u64 a2, .int .u64 fr2, .int .u64 to2, .bool la2, .bool ro2] 50)) := (Below.refl _ _).alloc (Nat.le_refl _) _
      have NA := TW.hide (heap_alloc_new w2 (.cells #[.int .i64 J, .int .u64 a2, .int .u64 fr2, .int .u64 to2, .bool la2, .bool ro2] 50))
      have HGA : Hid (g + 1 < w2.heap.size) := HG2.out
      clear HG2
      have N0 := TW.hide (blk_keep N0.out hA)
      have N1 := TW.hide (blk_keep N1.out hA)
      have HG2 := TW.hide (Nat.lt_of_lt_of_le (blk_lt NW.out) hA.size)
      have NG := TW.hide (blk_keep NG.out hA)
      have NW := TW.hide (blk_keep NW.out hA)
      have NO := TW.hide (ow_below NO.out hA)
      have NB : Hid (Below w.heap.size w (w2.alloc (.cells #[.int .i64 J, .int .u64 a2, .int .u64 fr2, .int .u64 to2, .bool la2, .bool ro2] 50))) := NB.out.trans (hA.mono NB.out.size)
      clear hA
      clear HG2
      obtain ⟨⟨r0, r1, r2, r3, r4, r5⟩, _, _⟩ := cells6f NA.out
      obtain ⟨⟨s0, s1, s2, s3, s4, s5⟩, _, _⟩ := cells6f NG.out
      obtain ⟨_, _, _, f0, fz⟩ := cells17 NW.out
      have HNEW : Hid (∀ (j : Nat) (u : Value), ([.int .i64 J, .int .u64 a2, .int .u64 fr2, .int .u64 to2, .bool la2, .bool ro2, .int .u64 a1] : List Value)[j]? = some u → ((w2.alloc (.cells #[.int .i64 J, .int .u64 a2, .int .u64 fr2, .int .u64 to2, .bool la2, .bool ro2] 50)).alloc (.cells #[.int .i64 J, .int .u64 a2, .int .u64 fr2, .int .u64 to2, .bool la2, .bool ro2, .int .u64 a1] 74)).cell? ((⟨w2.heap.size + 1, 0, none⟩ : Addr).add j) = some u) := by
        have h := cells_sev_new (w2.alloc (.cells #[.int .i64 J, .int .u64 a2, .int .u64 fr2, .int .u64 to2, .bool la2, .bool ro2] 50)) 74 (a := .int .i64 J) (b := .int .u64 a2) (c := .int .u64 fr2) (d := .int .u64 to2) (e := .bool la2) (f := .bool ro2) (g := .int .u64 a1)
        rw [show (w2.alloc (.cells #[.int .i64 J, .int .u64 a2, .int .u64 fr2, .int .u64 to2, .bool la2, .bool ro2] 50)).heap.size = w2.heap.size + 1 by simp] at h
        exact h
      have hA2 : Below (w2.alloc (.cells #[.int .i64 J, .int .u64 a2, .int .u64 fr2, .int .u64 to2, .bool la2, .bool ro2] 50)).heap.size (w2.alloc (.cells #[.int .i64 J, .int .u64 a2, .int .u64 fr2, .int .u64 to2, .bool la2, .bool ro2] 50)) ((w2.alloc (.cells #[.int .i64 J, .int .u64 a2, .int .u64 fr2, .int .u64 to2, .bool la2, .bool ro2] 50)).alloc (.cells #[.int .i64 J, .int .u64 a2, .int .u64 fr2, .int .u64 to2, .bool la2, .bool ro2, .int .u64 a1] 74)) := (Below.refl _ _).alloc (Nat.le_refl _) _
      have QA := TW.hide (blk_keep NA.out hA2)
      clear NA
      have NA := QA
      clear QA
      have N0 := TW.hide (blk_keep N0.out hA2)
      have N1 := TW.hide (blk_keep N1.out hA2)
      have HG2 := TW.hide (Nat.lt_of_lt_of_le (blk_lt NW.out) hA2.size)
      have NG := TW.hide (blk_keep NG.out hA2)
      have NW := TW.hide (blk_keep NW.out hA2)
      have NO := TW.hide (ow_below NO.out hA2)
      have NB : Hid (Below w.heap.size w ((w2.alloc (.cells #[.int .i64 J, .int .u64 a2, .int .u64 fr2, .int .u64 to2, .bool la2, .bool ro2] 50)).alloc (.cells #[.int .i64 J, .int .u64 a2, .int .u64 fr2, .int .u64 to2, .bool la2, .bool ro2, .int .u64 a1] 74))) := NB.out.trans (hA2.mono NB.out.size)
      clear hA2
      clear HG2
      go_wp2_with (first | (refine wpList_store_row (by rfl) 50 _ _ (by rfl) g #[.int .i64 J, .int .u64 a2, .int .u64 fr2, .int .u64 to2, .bool la2, .bool ro2] (by rfl) (by rfl) 50 _ NG.out (by kernel_rfl) (by rfl) (by simp [Value.oneCell']) ?_) | (at_builtin; refine wpList_append_own _ rfl _ _ 51 rfl (g + 2) 74 i0 (.agg #[.int .i64 0, .int .u64 0, .int .u64 0, .int .u64 0, .bool false, .bool false, .int .u64 0]) 7 48 Try.underlying51 hi hz0 hz1 hz2 rfl (by decide) _ i (FC i) rfl NO.out ⟨w2.heap.size + 1, 0, none⟩ 1 1 [.int .i64 J, .int .u64 a2, .int .u64 fr2, .int .u64 to2, .bool la2, .bool ro2, .int .u64 a1] rfl rfl HNEW.out (by simp [Value.oneCell']) (by have := H255.out; have := HI1.out; unfold maxLen; omega) (by have := H255.out; have := HI1.out; omega) (blk_lt NW.out) ?_; (intro v5 w5 hown' hgrow _); obtain ⟨g5, cap5, rfl⟩ := ownsRow_succ hown'; have HO5 := TW.hide hown'; have HG5 := TW.hide hgrow; clear hown' hgrow f0 fz r0 r1 r2 r3 r4 r5 s0 s1 s2 s3 s4 s5; have hne : ∀ q, (Value.slice av kv cv).ownBlock = some q → g + 2 ≤ q := fun q hq => ow_block NO.out q hq; have N0 := TW.hide (ow_grown N0.out HG5.out (fun h => by have := hne _ h; have := HG.out; omega)); have N1 := TW.hide (ow_grown N1.out HG5.out (fun h => by have := hne _ h; have := HG.out; omega)); have NG := TW.hide (ow_grown NG.out HG5.out (fun h => by have := hne _ h; omega)); have NW := TW.hide (ow_grown NW.out HG5.out (fun h => by have := hne _ h; omega)); have NA := TW.hide (ow_grown NA.out HG5.out (fun h => ow_nblk NO.out NA.out (by decide) _ h rfl)); have NB := TW.hide (NB.out.grown HG5.out (by have := NB.out.size; omega) (fun q hq => by have := hne q hq; have := HG.out; omega)); clear HG5 hne HNEW; obtain ⟨_, _, _, f0, fz⟩ := cells17 NW.out; have N0 := TW.hide (blk_other (g := g + 1) (i := 16) (u := (.slice (some ⟨g5, 0, none⟩) (i + 1) cap5)) N0.out (by have := HG.out; omega)); have N1 := TW.hide (blk_other (g := g + 1) (i := 16) (u := (.slice (some ⟨g5, 0, none⟩) (i + 1) cap5)) N1.out (by have := HG.out; omega)); have NG := TW.hide (blk_other (g := g + 1) (i := 16) (u := (.slice (some ⟨g5, 0, none⟩) (i + 1) cap5)) NG.out (by omega)); have NA := TW.hide (blk_other (g := g + 1) (i := 16) (u := (.slice (some ⟨g5, 0, none⟩) (i + 1) cap5)) NA.out (by have := HGA.out; omega)); have NB := TW.hide (NB.out.setCell (p := ⟨g + 1, 16, none⟩) (by have := HG.out; show _ ≤ g + 1; omega) (.slice (some ⟨g5, 0, none⟩) (i + 1) cap5)); have NW := TW.hide (blk_set (i := 16) (u := (.slice (some ⟨g5, 0, none⟩) (i + 1) cap5)) NW.out); have NO := TW.hide (ow_setF (o := 16) (u := (.slice (some ⟨g5, 0, none⟩) (i + 1) cap5)) HO5.out (Nat.lt_succ_self (g + 1))); clear HO5; obtain ⟨⟨r0, r1, r2, r3, r4, r5⟩, _, _⟩ := cells6f NA.out))
      have ZG := TW.hide (setRow_heap _ g _ #[.int .i64 J, .int .u64 a2, .int .u64 fr2, .int .u64 to2, .bool la2, .bool ro2] _ _ NG.out)
      have Z0 := TW.hide (blk_other' (g := g) (cs := #[.int .i64 J, .int .u64 a2, .int .u64 fr2, .int .u64 to2, .bool la2, .bool ro2]) N0.out (by have := HG.out; omega))
      have Z1 := TW.hide (blk_other' (g := g) (cs := #[.int .i64 J, .int .u64 a2, .int .u64 fr2, .int .u64 to2, .bool la2, .bool ro2]) N1.out (by have := HG.out; omega))
      have ZW := TW.hide (blk_other' (g := g) (cs := #[.int .i64 J, .int .u64 a2, .int .u64 fr2, .int .u64 to2, .bool la2, .bool ro2]) NW.out (by omega))
      have ZO := TW.hide (ow_other (cs := #[.int .i64 J, .int .u64 a2, .int .u64 fr2, .int .u64 to2, .bool la2, .bool ro2]) NO.out (by omega : g < g + 2))
      have ZB := TW.hide (below_setRow (g := g) (cs := #[.int .i64 J, .int .u64 a2, .int .u64 fr2, .int .u64 to2, .bool la2, .bool ro2]) NB.out (by have := HG.out; omega))
      clear N0 N1 NG NA NB NW NO r0 r1 r2 r3 r4 r5
      generalize World.setRow _ _ _ = Z at *
      go_wp2
      go_roundw
      case rel =>
        repeat apply Exists.intro
        refine ⟨⟨i + 1, _, HI1.out, ?_, ?_, ZW.out, Z0.out, Z1.out, ZB.out⟩, rfl⟩
        · rw [HFC.out, HEF.out]; exact ZO.out
        · rw [HEI.out]; exact ZG.out
      case measure =>
        show len - rowAt Z g < len - rowAt wr g
        rw [rowAt_of (cells6f ZG.out).1.1, HRW.out]
        have := HI1.out
        have := HJ.out
        omega
end LW
end Go.Proofs.Ytcpegipojkbcoaa
namespace Go.Proofs.Ytcpegipojkbcoaa
open Go.RowKit
set_option linter.unusedVariables false
set_option linter.unusedSimpArgs false
namespace LW
open Words
theorem cells7 {w : World} {b : Nat} {t : TypeId} {v0 v1 v2 v3 v4 v5 v6 : Value} (h : w.heap[b]? = some (.cells #[v0, v1, v2, v3, v4, v5, v6] t (0, 0))) : w.cell? ⟨b, 0, none⟩ = some v0 ∧ w.cell? ⟨b, 1, none⟩ = some v1 ∧ w.cell? ⟨b, 2, none⟩ = some v2 ∧ w.cell? ⟨b, 3, none⟩ = some v3 ∧ w.cell? ⟨b, 4, none⟩ = some v4 ∧ w.cell? ⟨b, 5, none⟩ = some v5 ∧ w.cell? ⟨b, 6, none⟩ = some v6 := by
  simp [World.cell?, h]
set_option maxRecDepth 100000 in
set_option maxHeartbeats 2000000 in
theorem before_ (x0 : Int) (x1 F E C : Nat) (x4 x5 : Bool) (h1 : F ≤ C) (h2 : C < E) (h3 : E < 18446744073709551616) (w : World) : Calls Try.prog 28 #[.agg #[.int .i64 x0, .int .u64 x1, .int .u64 F, .int .u64 E, .bool x4, .bool x5, .int .u64 C]] w fun e w' => e = .returned (.int .u64 (C - F : Nat)) ∧ Below w.heap.size w w' := by
  have e1 : IntKind.u64.wrap ((C : Int) - (F : Int)) = ((C - F : Nat) : Int) := by rw [IntKind.wrap_u64]; omega
  generalize C - F = z at *
  try generalize E - C = z1 at *
  have HB := TW.hide ((Below.refl w.heap.size w).alloc (Nat.le_refl _) (.cells #[.int .i64 x0, .int .u64 x1, .int .u64 F, .int .u64 E, .bool x4, .bool x5, .int .u64 C] 74))
  have n0 := heap_alloc_new w (.cells #[.int .i64 x0, .int .u64 x1, .int .u64 F, .int .u64 E, .bool x4, .bool x5, .int .u64 C] 74)
  obtain ⟨c0, c1, c2, c3, c4, c5, c6⟩ := cells7 n0
  clear n0 h1 h2 h3
  go_enter Try.func28, Try.ntmps28
  go_wp2
  go_ret
  exact ⟨rfl, HB.out⟩
set_option maxRecDepth 100000 in
set_option maxHeartbeats 2000000 in
theorem after_ (x0 : Int) (x1 F E C : Nat) (x4 x5 : Bool) (h1 : F ≤ C) (h2 : C < E) (h3 : E < 18446744073709551616) (w : World) : Calls Try.prog 29 #[.agg #[.int .i64 x0, .int .u64 x1, .int .u64 F, .int .u64 E, .bool x4, .bool x5, .int .u64 C]] w fun e w' => e = .returned (.int .u64 (E - C - 1 : Nat)) ∧ Below w.heap.size w w' := by
  have e1 : IntKind.u64.wrap ((E : Int) - (C : Int)) = ((E - C : Nat) : Int) := by rw [IntKind.wrap_u64]; omega
  have e2 : IntKind.u64.wrap (((E - C : Nat) : Int) - 1) = ((E - C - 1 : Nat) : Int) := by rw [IntKind.wrap_u64]; omega
  generalize E - C - 1 = z at *
  try generalize E - C = z1 at *
  have HB := TW.hide ((Below.refl w.heap.size w).alloc (Nat.le_refl _) (.cells #[.int .i64 x0, .int .u64 x1, .int .u64 F, .int .u64 E, .bool x4, .bool x5, .int .u64 C] 74))
  have n0 := heap_alloc_new w (.cells #[.int .i64 x0, .int .u64 x1, .int .u64 F, .int .u64 E, .bool x4, .bool x5, .int .u64 C] 74)
  obtain ⟨c0, c1, c2, c3, c4, c5, c6⟩ := cells7 n0
  clear n0 h1 h2 h3
  go_enter Try.func29, Try.ntmps29
  go_wp2
  go_ret
  exact ⟨rfl, HB.out⟩
/-- The forks of a way, as they lie. -/
def Fk (W : World) (g k : Nat) (AW WF WT : Nat → Nat) : Prop := ∀ i, i < k → ∃ (x0 : Int) (x1 : Nat) (x4 x5 : Bool), W.cell? ⟨g, i * 7, none⟩ = some (.int .i64 x0) ∧ W.cell? ⟨g, i * 7 + 1, none⟩ = some (.int .u64 x1) ∧ W.cell? ⟨g, i * 7 + 2, none⟩ = some (.int .u64 (WF (i + 1))) ∧ W.cell? ⟨g, i * 7 + 3, none⟩ = some (.int .u64 (WT (i + 1))) ∧ W.cell? ⟨g, i * 7 + 4, none⟩ = some (.bool x4) ∧ W.cell? ⟨g, i * 7 + 5, none⟩ = some (.bool x5) ∧ W.cell? ⟨g, i * 7 + 6, none⟩ = some (.int .u64 (AW i))
theorem Fk.below {w w' : World} {g k : Nat} {AW WF WT : Nat → Nat} (h : Fk w g k AW WF WT) (hb : Below w.heap.size w w') : Fk w' g k AW WF WT := by
  intro i hi
  obtain ⟨x0, x1, x4, x5, h0, h1, h2, h3, h4, h5, h6⟩ := h i hi
  have hl := lt_of_cell h0
  exact ⟨x0, x1, x4, x5, by rw [hb.cell hl]; exact h0, by rw [hb.cell hl]; exact h1, by rw [hb.cell hl]; exact h2, by rw [hb.cell hl]; exact h3, by rw [hb.cell hl]; exact h4, by rw [hb.cell hl]; exact h5, by rw [hb.cell hl]; exact h6⟩
/-- What find hands back can be read. -/
theorem fork_open {w : World} {B : Nat} {v : Value} {T : Tr} {n : Nat} {R : List Nat} {lf k : Nat} (h : w.ownsRow B 74 7 v k (foC T n R lf k)) (hk : 0 < k) : ∃ g cap, v = .slice (some ⟨g, 0, none⟩) k cap ∧ B ≤ g ∧ g < w.heap.size ∧ Fk w g k (aw T R lf) (wF T R lf) (wT T n R lf) := by
  rcases h.2 with ⟨_, h0⟩ | ⟨g, cap, cur, rfl, hg, hh, hn, hm, hc, ht⟩
  · omega
  · refine ⟨g, cap, rfl, hg, blk_lt hh, fun i hi => ?_⟩
    have hcl : ∀ c u, c < 7 → (foS T n R lf i).toList[c]? = some u → w.cell? ⟨g, i * 7 + c, none⟩ = some u := fun c u hc7 hu => by
      refine blk_cell hh ?_
      have h1 : (cur.toList.take (k * 7))[i * 7 + c]? = some u := by
        rw [ht, foC_get T n R lf k i c hi hc7]
        exact hu
      rw [List.getElem?_take, if_pos (by omega)] at h1
      simpa using h1
    exact ⟨_, _, _, _, hcl 0 _ (by omega) rfl, hcl 1 _ (by omega) rfl, hcl 2 _ (by omega) rfl, hcl 3 _ (by omega) rfl, hcl 4 _ (by omega) rfl, hcl 5 _ (by omega) rfl, hcl 6 _ (by omega) rfl⟩
set_option maxRecDepth 100000 in
set_option maxHeartbeats 2000000 in
theorem digests_ (T : Tr) (n : Nat) (s0 : Int) (s1 s2 s3 : Int) (s4 s5 : Bool) (g k cap : Nat) (AW WF WT SZ : Nat → Nat) (w : World) (hF : Fk w g k AW WF WT) (hk : k ≤ 255) (hX : ∀ i, i < k → WF (i + 1) ≤ AW i ∧ AW i < WT (i + 1) ∧ WT (i + 1) < 18446744073709551616) (hS0 : SZ 0 = 0) (hS : ∀ i, SZ (i + 1) = SZ i + (WT (i + 1) - WF (i + 1) - 1)) :
    Calls Try.prog 15 #[.agg #[.int .i64 T.k, .int .i64 T.d, .int .i64 T.f, .int .i64 T.dp, .int .u32 T.lf, .int .i64 T.inn, .slice T.ka T.kl T.kc, .slice T.sa T.sl T.sc, .slice T.pa T.pl T.pc, .int .u64 n, .int .i64 s0, .int .u64 s1, .int .u64 s2, .int .u64 s3, .bool s4, .bool s5, .slice (some ⟨g, 0, none⟩) k cap]] w fun e w' => e = .returned (.int .u64 (SZ k % 18446744073709551616 : Nat)) ∧ Below w.heap.size w w' := by
  have HF : Hid (∀ W, Below w.heap.size w W → Fk W g k AW WF WT) := fun W hW => hF.below hW
  have HX := TW.hide hX
  have HS := TW.hide hS
  obtain ⟨Fz, hFz⟩ : ∃ Fz, SZ k % 18446744073709551616 = Fz := ⟨_, rfl⟩
  rw [hFz]
  have HFZ := TW.hide hFz
  clear hF hX hS hFz
  have n0 := heap_alloc_new w (.cells #[.int .i64 T.k, .int .i64 T.d, .int .i64 T.f, .int .i64 T.dp, .int .u32 T.lf, .int .i64 T.inn, .slice T.ka T.kl T.kc, .slice T.sa T.sl T.sc, .slice T.pa T.pl T.pc, .int .u64 n, .int .i64 s0, .int .u64 s1, .int .u64 s2, .int .u64 s3, .bool s4, .bool s5, .slice (some ⟨g, 0, none⟩) k cap] 53)
  have hb0 := (Below.refl w.heap.size w).alloc (Nat.le_refl _) (.cells #[.int .i64 T.k, .int .i64 T.d, .int .i64 T.f, .int .i64 T.dp, .int .u32 T.lf, .int .i64 T.inn, .slice T.ka T.kl T.kc, .slice T.sa T.sl T.sc, .slice T.pa T.pl T.pc, .int .u64 n, .int .i64 s0, .int .u64 s1, .int .u64 s2, .int .u64 s3, .bool s4, .bool s5, .slice (some ⟨g, 0, none⟩) k cap] 53)
  have B0 := TW.hide hb0
  have hl0 := blk_lt n0
  obtain ⟨_, _, _, f0, _⟩ := cells17 n0
  clear n0 hb0
  go_enter Try.func15, Try.ntmps15
  refine wp_seq_k fun K hK => ?_
  have HK := TW.hide hK
  clear hK
  go_wp2_with fail
  refine HK.out _ _ ?_
  clear HK K
  generalize w.alloc _ = X at *
  go_wp2
  go_loopw [3, 5, 9] (fun q x i wr => ∃ i' : Nat, i' ≤ k ∧ q = .int .u64 ((SZ i' % 18446744073709551616 : Nat) : Int) ∧ i = .int .i64 (i' : Int) ∧ Below w.heap.size w wr) (fun q x i wr => k - (intOf i).toNat)
  case atStart => exact ⟨0, Nat.zero_le _, by rw [hS0]; rfl, rfl, B0.out⟩
  case round =>
    obtain ⟨i, hi, rfl, rfl, hB⟩ := hrel
    by_cases hlt : i < k
    · have hi1 : (i : Int) < (k : Int) := by omega
      have hi0 : (0 : Int) ≤ (i : Int) := by omega
      obtain ⟨x0, x1, x4, x5, d0, d1, d2, d3, d4, d5, d6⟩ := HF.out wr hB i hlt
      obtain ⟨h1, h2, h3⟩ := HX.out i hlt
      have h4 := HS.out i
      have H1 := TW.hide (fun W => before_ x0 x1 (WF (i + 1)) (WT (i + 1)) (AW i) x4 x5 h1 h2 h3 W)
      have H2 := TW.hide (fun W => after_ x0 x1 (WF (i + 1)) (WT (i + 1)) (AW i) x4 x5 h1 h2 h3 W)
      have e1 : IntKind.u64.wrap (((AW i - WF (i + 1) : Nat) : Int) + ((WT (i + 1) - AW i - 1 : Nat) : Int)) = ((WT (i + 1) - WF (i + 1) - 1 : Nat) : Int) := by rw [IntKind.wrap_u64]; omega
      have e2 : IntKind.u64.wrap (((SZ i % 18446744073709551616 : Nat) : Int) + ((WT (i + 1) - WF (i + 1) - 1 : Nat) : Int)) = ((SZ (i + 1) % 18446744073709551616 : Nat) : Int) := by rw [IntKind.wrap_u64, h4]; omega
      have e3 : IntKind.i64.wrap ((i : Int) + 1) = ((i + 1 : Nat) : Int) := by rw [IntKind.wrap_i64]; omega
      have HLT := TW.hide hlt
      clear h1 h2 h3 h4 hlt hi
      generalize SZ i % 18446744073709551616 = z0 at *
      generalize hz : SZ (i + 1) % 18446744073709551616 = z1 at *
      have HZ := TW.hide hz
      clear hz
      generalize AW i - WF (i + 1) = q1 at *
      generalize WT (i + 1) - AW i - 1 = q2 at *
      generalize WT (i + 1) - WF (i + 1) - 1 = q3 at *
      generalize WF (i + 1) = F at *
      generalize WT (i + 1) = E at *
      generalize AW i = C at *
      have n1 := heap_alloc_new wr (.cells #[.int .i64 x0, .int .u64 x1, .int .u64 F, .int .u64 E, .bool x4, .bool x5, .int .u64 C] 74)
      have hb1 := (Below.refl wr.heap.size wr).alloc (Nat.le_refl _) (.cells #[.int .i64 x0, .int .u64 x1, .int .u64 F, .int .u64 E, .bool x4, .bool x5, .int .u64 C] 74)
      have HB1 : Hid (Below w.heap.size w (wr.alloc (.cells #[.int .i64 x0, .int .u64 x1, .int .u64 F, .int .u64 E, .bool x4, .bool x5, .int .u64 C] 74))) := hB.trans (hb1.mono hB.size)
      have hE := blk_lt n1
      obtain ⟨y0, y1, y2, y3, y4, y5, y6⟩ := cells7 n1
      have HN := TW.hide n1
      clear hB hb1 n1
      go_wp2
      generalize wr.alloc _ = V at *
      generalize wr.heap.size = gf at *
      go_region_held3 (fun w' => w'.cell? ⟨gf, 0, none⟩ = some (.int .i64 x0) ∧ w'.cell? ⟨gf, 1, none⟩ = some (.int .u64 x1) ∧ w'.cell? ⟨gf, 2, none⟩ = some (.int .u64 F) ∧ w'.cell? ⟨gf, 3, none⟩ = some (.int .u64 E) ∧ w'.cell? ⟨gf, 4, none⟩ = some (.bool x4) ∧ w'.cell? ⟨gf, 5, none⟩ = some (.bool x5) ∧ w'.cell? ⟨gf, 6, none⟩ = some (.int .u64 C))
        (first | go_keep | (refine ⟨?_, ?_, ?_, ?_, ?_, ?_, ?_⟩ <;> rw [hb2.cell hE] <;> assumption) | (refine ⟨?_, ?_, ?_, ?_, ?_, ?_, ?_⟩ <;> rw [hb3.cell (Nat.lt_of_lt_of_le hE hb2.size), hb2.cell hE] <;> assumption))
        (first | (go_at_call 28; refine (H1.out _).mono ?_; rintro e w2 ⟨rfl, hb2⟩) | (go_at_call 29; refine (H2.out _).mono ?_; rintro e w3 ⟨rfl, hb3⟩))
      have HB3 : Hid (Below w.heap.size w w3) := (HB1.out.trans ((show Below V.heap.size V w2 from below_of_drew hb2).mono HB1.out.size)).trans (hb3.mono (by have := HB1.out.size; have := hb2.size; simp at this; omega))
      clear hb2 hb3 HB1
      go_wp2
      go_roundw
      case rel => exact ⟨i + 1, HLT.out, by rw [HZ.out], by go_num, HB3.out⟩
      case measure => simp [intOf]; have := HLT.out; omega
    · obtain rfl : i = k := by omega
      have hi1 : ¬ (i : Int) < (i : Int) := by omega
      clear hlt hi
      rw [HFZ.out]
      have HB := TW.hide hB
      clear hB
      go_wp2
      go_ret
      exact ⟨rfl, HB.out⟩
end LW
end Go.Proofs.Ytcpegipojkbcoaa
namespace Go.Proofs.Ytcpegipojkbcoaa
open Go.RowKit
set_option linter.unusedVariables false
set_option linter.unusedSimpArgs false
namespace LW
open Words
theorem findE_ (T : Tr) (hT : 0 ≤ T.lf ∧ T.lf < 4294967296) (n : Nat) (hn : n < 18446744073709551616) (lf : Nat) (h : waE T n lf ≠ 0) (w : World) : Calls Try.prog 14 #[.agg (trC T), .int .u64 n, .int .u64 lf] w fun e w' => e = .returned (.tuple #[.agg #[.int .i64 0, .int .i64 0, .int .i64 0, .int .i64 0, .int .u32 0, .int .i64 0, .slice none 0 0, .slice none 0 0, .slice none 0 0, .int .u64 0, .int .i64 0, .int .u64 0, .int .u64 0, .int .u64 0, .bool false, .bool false, .slice none 0 0], .int .i64 (waE T n lf)]) ∧ Below w.heap.size w w' := by
  refine pfindE T n lf (waE T n lf) h (fun W => ?_) w
  have := spot_ T hT n hn 0 lf W
  rwa [spF_no hT hn h] at this
theorem findOk_ (T : Tr) (hT : 0 ≤ T.lf ∧ T.lf < 4294967296) (n : Nat) (hn : n < 18446744073709551616) (lf : Nat) (h : waE T n lf = 0) (w : World) : Calls Try.prog 14 #[.agg (trC T), .int .u64 n, .int .u64 lf] w fun e w' => ∃ (s0 s1 s2 s3 : Int) (s4 s5 : Bool) (g cap : Nat), e = .returned (.tuple #[.agg #[.int .i64 T.k, .int .i64 T.d, .int .i64 T.f, .int .i64 T.dp, .int .u32 T.lf, .int .i64 T.inn, .slice T.ka T.kl T.kc, .slice T.sa T.sl T.sc, .slice T.pa T.pl T.pc, .int .u64 n, .int .i64 s0, .int .u64 s1, .int .u64 s2, .int .u64 s3, .bool s4, .bool s5, .slice (some ⟨g, 0, none⟩) ((roL T n).length - 1) cap], .int .i64 0]) ∧ s1 = (lf : Int) ∧ Fk w' g ((roL T n).length - 1) (aw T (roL T n) lf) (wF T (roL T n) lf) (wT T n (roL T n) lf) ∧ Below w.heap.size w w' := by
  rcases waE_cases T n lf with ⟨_, hE, hl⟩ | ⟨h0, _⟩
  · have hR := rwsT hT hn hE
    refine (pfindOk T hT n hn (roL T n) lf (roL T n).length rfl hR.most hR.two (fun i hi W => ?_) (fun i hi W => ?_) w).mono ?_
    · have := spot_ T hT n hn (i : Int) (aw T (roL T n) lf i) W
      rwa [spF_yes hT hn hE hl i hi] at this
    · have := parent_ T hT n hn (i : Int) (aw T (roL T n) lf i) (aw_small hT hn hE hl i (by omega)) W
      rwa [paF_yes hT hn hE hl i hi] at this
    · rintro e w' ⟨v, fr, to, la, rfl, ho, hb⟩
      obtain ⟨g, cap, rfl, _, _, hf⟩ := fork_open ho (by have := hR.two; omega)
      exact ⟨0, lf, fr, to, la, false, g, cap, rfl, rfl, hf, hb⟩
  · exact absurd h h0
theorem step_nums {T : Tr} {n lf : Nat} (hT : 0 ≤ T.lf ∧ T.lf < 4294967296) (hn : n < 18446744073709551616) (h : waE T n lf = 0) (i : Nat) (hi : i < (roL T n).length - 1) : wF T (roL T n) lf (i + 1) ≤ aw T (roL T n) lf i ∧ aw T (roL T n) lf i < wT T n (roL T n) lf (i + 1) ∧ wT T n (roL T n) lf (i + 1) < 18446744073709551616 := by
  rcases waE_cases T n lf with ⟨_, hE, hl⟩ | ⟨h0, _⟩
  · have hR := rwsT hT hn hE
    have h5 := aw_in (n := n) (lvE_ok hE) hR hl i (by omega)
    have h6 := wT_lt hn (lvE_ok hE) hT.1 hR hl (i + 1) (by omega)
    unfold wF wT at *
    omega
  · exact absurd h h0
set_option maxRecDepth 100000 in
set_option maxHeartbeats 2000000 in
theorem psizeE (T : Tr) (n lf : Nat) (E : Int) (hE : E ≠ 0) (H : ∀ W, Calls Try.prog 14 #[.agg (trC T), .int .u64 n, .int .u64 lf] W fun e w' => e = .returned (.tuple #[.agg #[.int .i64 0, .int .i64 0, .int .i64 0, .int .i64 0, .int .u32 0, .int .i64 0, .slice none 0 0, .slice none 0 0, .slice none 0 0, .int .u64 0, .int .i64 0, .int .u64 0, .int .u64 0, .int .u64 0, .bool false, .bool false, .slice none 0 0], .int .i64 E]) ∧ Below W.heap.size W w') (w : World) : Calls Try.prog 5 #[.agg (trC T), .int .u64 n, .int .u64 lf] w fun e w' => e = .returned (.tuple #[.int .u64 0, .int .i64 E]) ∧ Below w.heap.size w w' := by
  replace H := TW.hide H
  unfold trC at *
  have n0 := heap_alloc_new w (.cells #[.int .i64 T.k, .int .i64 T.d, .int .i64 T.f, .int .i64 T.dp, .int .u32 T.lf, .int .i64 T.inn, .slice T.ka T.kl T.kc, .slice T.sa T.sl T.sc, .slice T.pa T.pl T.pc] 26)
  have hb0 := (Below.refl w.heap.size w).alloc (Nat.le_refl _) (.cells #[.int .i64 T.k, .int .i64 T.d, .int .i64 T.f, .int .i64 T.dp, .int .u32 T.lf, .int .i64 T.inn, .slice T.ka T.kl T.kc, .slice T.sa T.sl T.sc, .slice T.pa T.pl T.pc] 26)
  have HB0 := TW.hide hb0
  have HN0 := TW.hide n0
  clear n0 hb0
  go_enter Try.func5, Try.ntmps5
  refine wp_seq_k fun K hK => ?_
  have HK := TW.hide hK
  clear hK
  go_wp2_with fail
  refine HK.out _ _ ?_
  clear HK K
  generalize w.alloc _ = X at *
  obtain ⟨c0, c1, c2, c3, c4, c5, c6, c7, c8⟩ := cells9 HN0.out
  refine wp_seq_k fun K hK => ?_
  have HK := TW.hide hK
  clear hK
  go_wp2_with fail
  refine (H.out _).mono ?_
  rintro e1 w1 ⟨rfl, hb⟩
  clear c0 c1 c2 c3 c4 c5 c6 c7 c8 H
  have hA : Below w1.heap.size w1 (((w1).alloc (.cells #[.int .i64 0, .int .i64 0, .int .i64 0, .int .i64 0, .int .u32 0, .int .i64 0, .slice none 0 0, .slice none 0 0, .slice none 0 0, .int .u64 0, .int .i64 0, .int .u64 0, .int .u64 0, .int .u64 0, .bool false, .bool false, .slice none 0 0] 53)).setRow w1.heap.size #[.int .i64 0, .int .i64 0, .int .i64 0, .int .i64 0, .int .u32 0, .int .i64 0, .slice none 0 0, .slice none 0 0, .slice none 0 0, .int .u64 0, .int .i64 0, .int .u64 0, .int .u64 0, .int .u64 0, .bool false, .bool false, .slice none 0 0]) := below_setRow ((Below.refl _ _).alloc (Nat.le_refl _) _) (Nat.le_refl _)
  have NW : Hid ((((w1).alloc (.cells #[.int .i64 0, .int .i64 0, .int .i64 0, .int .i64 0, .int .u32 0, .int .i64 0, .slice none 0 0, .slice none 0 0, .slice none 0 0, .int .u64 0, .int .i64 0, .int .u64 0, .int .u64 0, .int .u64 0, .bool false, .bool false, .slice none 0 0] 53)).setRow w1.heap.size #[.int .i64 0, .int .i64 0, .int .i64 0, .int .i64 0, .int .u32 0, .int .i64 0, .slice none 0 0, .slice none 0 0, .slice none 0 0, .int .u64 0, .int .i64 0, .int .u64 0, .int .u64 0, .int .u64 0, .bool false, .bool false, .slice none 0 0]).heap[w1.heap.size]? = some (.cells #[.int .i64 0, .int .i64 0, .int .i64 0, .int .i64 0, .int .u32 0, .int .i64 0, .slice none 0 0, .slice none 0 0, .slice none 0 0, .int .u64 0, .int .i64 0, .int .u64 0, .int .u64 0, .int .u64 0, .bool false, .bool false, .slice none 0 0] 53 (0, 0))) := setRow_heap _ _ _ _ _ _ (heap_alloc_new w1 _)
  have NB : Hid (Below w.heap.size w (((w1).alloc (.cells #[.int .i64 0, .int .i64 0, .int .i64 0, .int .i64 0, .int .u32 0, .int .i64 0, .slice none 0 0, .slice none 0 0, .slice none 0 0, .int .u64 0, .int .i64 0, .int .u64 0, .int .u64 0, .int .u64 0, .bool false, .bool false, .slice none 0 0] 53)).setRow w1.heap.size #[.int .i64 0, .int .i64 0, .int .i64 0, .int .i64 0, .int .u32 0, .int .i64 0, .slice none 0 0, .slice none 0 0, .slice none 0 0, .int .u64 0, .int .i64 0, .int .u64 0, .int .u64 0, .int .u64 0, .bool false, .bool false, .slice none 0 0])) := (HB0.out.trans (hb.mono HB0.out.size)).trans (hA.mono (HB0.out.trans (hb.mono HB0.out.size)).size)
  clear HN0 HB0 hb hA NW
  go_wp2_with (refine wpList_store_row (by rfl) 53 _ _ (by rfl) w1.heap.size #[.int .i64 0, .int .i64 0, .int .i64 0, .int .i64 0, .int .u32 0, .int .i64 0, .slice none 0 0, .slice none 0 0, .slice none 0 0, .int .u64 0, .int .i64 0, .int .u64 0, .int .u64 0, .int .u64 0, .bool false, .bool false, .slice none 0 0] (by rfl) (by rfl) 53 _ (heap_alloc_new w1 _) (by kernel_rfl) (by rfl) (by simp [Value.oneCell']) ?_)
  refine HK.out _ _ ?_
  clear HK K
  generalize World.setRow _ _ _ = V at *
  have hE' : (E != 0) = true := by simp [hE]
  go_wp2
  go_ret2
  exact ⟨rfl, NB.out⟩
set_option maxRecDepth 100000 in
set_option maxHeartbeats 2000000 in
theorem psizeOk (T : Tr) (n lf k : Nat) (AW WF WT : Nat → Nat) (z : Nat) (H : ∀ W, Calls Try.prog 14 #[.agg (trC T), .int .u64 n, .int .u64 lf] W fun e w' => ∃ (s0 s1 s2 s3 : Int) (s4 s5 : Bool) (g cap : Nat), e = .returned (.tuple #[.agg #[.int .i64 T.k, .int .i64 T.d, .int .i64 T.f, .int .i64 T.dp, .int .u32 T.lf, .int .i64 T.inn, .slice T.ka T.kl T.kc, .slice T.sa T.sl T.sc, .slice T.pa T.pl T.pc, .int .u64 n, .int .i64 s0, .int .u64 s1, .int .u64 s2, .int .u64 s3, .bool s4, .bool s5, .slice (some ⟨g, 0, none⟩) k cap], .int .i64 0]) ∧ s1 = (lf : Int) ∧ Fk w' g k AW WF WT ∧ Below W.heap.size W w') (HD : ∀ (s0 s1 s2 s3 : Int) (s4 s5 : Bool) (g cap : Nat) W, Fk W g k AW WF WT → Calls Try.prog 15 #[.agg #[.int .i64 T.k, .int .i64 T.d, .int .i64 T.f, .int .i64 T.dp, .int .u32 T.lf, .int .i64 T.inn, .slice T.ka T.kl T.kc, .slice T.sa T.sl T.sc, .slice T.pa T.pl T.pc, .int .u64 n, .int .i64 s0, .int .u64 s1, .int .u64 s2, .int .u64 s3, .bool s4, .bool s5, .slice (some ⟨g, 0, none⟩) k cap]] W fun e w' => e = .returned (.int .u64 z) ∧ Below W.heap.size W w') (w : World) : Calls Try.prog 5 #[.agg (trC T), .int .u64 n, .int .u64 lf] w fun e w' => e = .returned (.tuple #[.int .u64 z, .int .i64 0]) ∧ Below w.heap.size w w' := by
  replace H := TW.hide H
  replace HD := TW.hide HD
  unfold trC at *
  have n0 := heap_alloc_new w (.cells #[.int .i64 T.k, .int .i64 T.d, .int .i64 T.f, .int .i64 T.dp, .int .u32 T.lf, .int .i64 T.inn, .slice T.ka T.kl T.kc, .slice T.sa T.sl T.sc, .slice T.pa T.pl T.pc] 26)
  have hb0 := (Below.refl w.heap.size w).alloc (Nat.le_refl _) (.cells #[.int .i64 T.k, .int .i64 T.d, .int .i64 T.f, .int .i64 T.dp, .int .u32 T.lf, .int .i64 T.inn, .slice T.ka T.kl T.kc, .slice T.sa T.sl T.sc, .slice T.pa T.pl T.pc] 26)
  have HB0 := TW.hide hb0
  have HN0 := TW.hide n0
  clear n0 hb0
  go_enter Try.func5, Try.ntmps5
  refine wp_seq_k fun K hK => ?_
  have HK := TW.hide hK
  clear hK
  go_wp2_with fail
  refine HK.out _ _ ?_
  clear HK K
  generalize w.alloc _ = X at *
  obtain ⟨c0, c1, c2, c3, c4, c5, c6, c7, c8⟩ := cells9 HN0.out
  refine wp_seq_k fun K hK => ?_
  have HK := TW.hide hK
  clear hK
  go_wp2_with fail
  refine (H.out _).mono ?_
  rintro e1 w1 ⟨s0, s1, s2, s3, s4, s5, g, cap, rfl, hs1, hf, hb⟩
  clear hs1
  clear c0 c1 c2 c3 c4 c5 c6 c7 c8 H
  have hA : Below w1.heap.size w1 (((w1).alloc (.cells #[.int .i64 0, .int .i64 0, .int .i64 0, .int .i64 0, .int .u32 0, .int .i64 0, .slice none 0 0, .slice none 0 0, .slice none 0 0, .int .u64 0, .int .i64 0, .int .u64 0, .int .u64 0, .int .u64 0, .bool false, .bool false, .slice none 0 0] 53)).setRow w1.heap.size #[.int .i64 T.k, .int .i64 T.d, .int .i64 T.f, .int .i64 T.dp, .int .u32 T.lf, .int .i64 T.inn, .slice T.ka T.kl T.kc, .slice T.sa T.sl T.sc, .slice T.pa T.pl T.pc, .int .u64 n, .int .i64 s0, .int .u64 s1, .int .u64 s2, .int .u64 s3, .bool s4, .bool s5, .slice (some ⟨g, 0, none⟩) k cap]) := below_setRow ((Below.refl _ _).alloc (Nat.le_refl _) _) (Nat.le_refl _)
  have NW : Hid ((((w1).alloc (.cells #[.int .i64 0, .int .i64 0, .int .i64 0, .int .i64 0, .int .u32 0, .int .i64 0, .slice none 0 0, .slice none 0 0, .slice none 0 0, .int .u64 0, .int .i64 0, .int .u64 0, .int .u64 0, .int .u64 0, .bool false, .bool false, .slice none 0 0] 53)).setRow w1.heap.size #[.int .i64 T.k, .int .i64 T.d, .int .i64 T.f, .int .i64 T.dp, .int .u32 T.lf, .int .i64 T.inn, .slice T.ka T.kl T.kc, .slice T.sa T.sl T.sc, .slice T.pa T.pl T.pc, .int .u64 n, .int .i64 s0, .int .u64 s1, .int .u64 s2, .int .u64 s3, .bool s4, .bool s5, .slice (some ⟨g, 0, none⟩) k cap]).heap[w1.heap.size]? = some (.cells #[.int .i64 T.k, .int .i64 T.d, .int .i64 T.f, .int .i64 T.dp, .int .u32 T.lf, .int .i64 T.inn, .slice T.ka T.kl T.kc, .slice T.sa T.sl T.sc, .slice T.pa T.pl T.pc, .int .u64 n, .int .i64 s0, .int .u64 s1, .int .u64 s2, .int .u64 s3, .bool s4, .bool s5, .slice (some ⟨g, 0, none⟩) k cap] 53 (0, 0))) := setRow_heap _ _ _ _ _ _ (heap_alloc_new w1 _)
  have NB : Hid (Below w.heap.size w (((w1).alloc (.cells #[.int .i64 0, .int .i64 0, .int .i64 0, .int .i64 0, .int .u32 0, .int .i64 0, .slice none 0 0, .slice none 0 0, .slice none 0 0, .int .u64 0, .int .i64 0, .int .u64 0, .int .u64 0, .int .u64 0, .bool false, .bool false, .slice none 0 0] 53)).setRow w1.heap.size #[.int .i64 T.k, .int .i64 T.d, .int .i64 T.f, .int .i64 T.dp, .int .u32 T.lf, .int .i64 T.inn, .slice T.ka T.kl T.kc, .slice T.sa T.sl T.sc, .slice T.pa T.pl T.pc, .int .u64 n, .int .i64 s0, .int .u64 s1, .int .u64 s2, .int .u64 s3, .bool s4, .bool s5, .slice (some ⟨g, 0, none⟩) k cap])) := (HB0.out.trans (hb.mono HB0.out.size)).trans (hA.mono (HB0.out.trans (hb.mono HB0.out.size)).size)
  have NF := TW.hide (hf.below hA)
  clear HN0 HB0 hb hA hf
  go_wp2_with (refine wpList_store_row (by rfl) 53 _ _ (by rfl) w1.heap.size #[.int .i64 T.k, .int .i64 T.d, .int .i64 T.f, .int .i64 T.dp, .int .u32 T.lf, .int .i64 T.inn, .slice T.ka T.kl T.kc, .slice T.sa T.sl T.sc, .slice T.pa T.pl T.pc, .int .u64 n, .int .i64 s0, .int .u64 s1, .int .u64 s2, .int .u64 s3, .bool s4, .bool s5, .slice (some ⟨g, 0, none⟩) k cap] (by rfl) (by rfl) 53 _ (heap_alloc_new w1 _) (by kernel_rfl) (by rfl) (by simp [Value.oneCell']) ?_)
  refine HK.out _ _ ?_
  clear HK K
  generalize World.setRow _ _ _ = V at *
  generalize w1.heap.size = gw at *
  go_wp2_with (refine wpList_load_row (by rfl) 53 _ (by rfl) gw (by rfl) 53 #[.int .i64 T.k, .int .i64 T.d, .int .i64 T.f, .int .i64 T.dp, .int .u32 T.lf, .int .i64 T.inn, .slice T.ka T.kl T.kc, .slice T.sa T.sl T.sc, .slice T.pa T.pl T.pc, .int .u64 n, .int .i64 s0, .int .u64 s1, .int .u64 s2, .int .u64 s3, .bool s4, .bool s5, .slice (some ⟨g, 0, none⟩) k cap] (0, 0) _ NW.out Try.underlying53 rfl (by kernel_rfl) ?_)
  refine (HD.out s0 s1 s2 s3 s4 s5 g cap _ NF.out).mono ?_
  rintro e2 w2 ⟨rfl, hb⟩
  have NB2 : Hid (Below w.heap.size w w2) := NB.out.trans (hb.mono NB.out.size)
  clear hb
  go_wp2
  go_ret2
  exact ⟨rfl, NB2.out⟩
theorem psize : PSize := by
  intro T hT n hn lf hl w
  by_cases h : waE T n lf = 0
  · have hz : szF T n lf = szN T n (roL T n) lf ((roL T n).length - 1) % 18446744073709551616 := by unfold szF; rw [if_pos h]
    rw [hz, h]
    have h255 : (roL T n).length ≤ 255 := by
      rcases waE_cases T n lf with ⟨_, hE, _⟩ | ⟨h0, _⟩
      · exact (rwsT hT hn hE).most
      · exact absurd h h0
    exact psizeOk T n lf _ _ _ _ _ (fun W => findOk_ T hT n hn lf h W) (fun s0 s1 s2 s3 s4 s5 g cap W hf => digests_ T n s0 s1 s2 s3 s4 s5 g _ cap _ _ _ (szN T n (roL T n) lf) W hf (by omega) (fun i hi => step_nums hT hn h i hi) rfl (fun i => rfl)) w
  · have hz : szF T n lf = 0 := by unfold szF; rw [if_neg h]
    rw [hz]
    exact psizeE T n lf _ h (fun W => findE_ T hT n hn lf h W) w
end LW
end Go.Proofs.Ytcpegipojkbcoaa
