/-
  What the call Decode (the program) gives, for every block in either form.
-/
import Derived.Test.YtomdplcmbcjkfaaDecL
namespace Go.Proofs.Ytomdplcmbcjkfaa
open Go.RowKit
set_option linter.unusedVariables false
set_option linter.unusedSimpArgs false
namespace LW
open Words
attribute [local go_sem ↓] Go.wp_at_zero Go.wp_at_succ
theorem cl_zero {kd : Int} {n : Nat} (h : cl kd n = 0) : (kd = 1 ∨ kd = 2) ∧ (n : Int) = mo kd := by
  unfold cl at h
  split at h
  · exact absurd h (by decide)
  · rename_i hk
    split at h
    · exact absurd h (by decide)
    · split at h
      · exact absurd h (by decide)
      · exact ⟨by omega, by omega⟩
theorem msC_two (kd : Int) (W : World) (g : Nat) (h : W.heap[g]? = some (.cells (msC kd) 59 (0, 0))) : W.rangeAt g 4 [.int .i64 (if kd = 1 then 18 else 0), .int .i64 (if kd = 1 then 14 else 0)] := fun j v hj => by
  have hlt := (List.getElem?_eq_some_iff.1 hj).1
  have : j = 0 ∨ j = 1 := by simp at hlt; omega
  rcases this with rfl | rfl
  · exact blk_cell h (i := 4) (by simpa [msC] using hj)
  · exact blk_cell h (i := 5) (by simpa [msC] using hj)
theorem info79 (kd : Int) : (Try.prog.info? 59).map (·.size) = some (msC kd).size := by
  show (Try.prog.info? 59).map (·.size) = some 6
  kernel_rfl
theorem ms_one (kd : Int) : (msC kd).all (·.oneCell') = true := by simp [msC, Value.oneCell']
set_option maxRecDepth 100000 in
set_option maxHeartbeats 4000000 in
theorem decLen (kd : Int) (x : Bool) (a : Option Addr) (cap len : Nat) (w : World) (hE : (cl kd len != 0) = true) :
    Calls Try.prog 8 #[.int .i64 kd, .slice a len cap, .bool x] w fun e w' => e = .returned (.tuple #[.agg (pcP Pm.zero (.slice none 0 0) (.slice none 0 0)), .int .i64 (cl kd len)]) ∧ Below w.heap.size w w' := by
  have H54 := TW.hide (fun W => checkLength kd a len cap W)
  generalize cl kd len = E at *
  have hb := ((Below.refl w.heap.size w).alloc (Nat.le_refl _) (.cells (pcP Pm.zero (.slice none 0 0) (.slice none 0 0)) 26))
  have n0 := (heap_new w (.cells (pcP Pm.zero (.slice none 0 0) (.slice none 0 0)) 26))
  go_enter Try.func8, Try.ntmps8
  refine wp_seq_k fun K hK => ?_
  have HK := TW.hide hK
  clear hK
  go_wp2
  refine HK.out _ _ ?_
  clear HK K
  change Code.wp _ _ _ _ (w.alloc (.cells (pcP Pm.zero (.slice none 0 0) (.slice none 0 0)) 26))
  generalize hWW : w.alloc (.cells (pcP Pm.zero (.slice none 0 0) (.slice none 0 0)) 26) = W at hb n0 ⊢
  have hW : W.heap.size = w.heap.size + 1 := by rw [← hWW]; simp
  clear hWW
  generalize hB : w.heap.size = B at *
  have N0 := TW.hide n0
  have NB := TW.hide hb
  clear n0 hb
  clear hW
  go_wp2_with fail
  refine (H54.out _).mono ?_
  rintro e w1 ⟨rfl, hb1⟩
  have M0 := TW.hide (blk_keep N0.out hb1)
  have MB : Hid (Below B w w1) := below_row NB.out hb1 (by have := blk_lt N0.out; omega)
  clear hb1 N0 NB
  go_wp2_with (first | (refine wpList_store_row (by rfl) 26 _ _ (by rfl) (B) (pcP Pm.zero (.slice none 0 0) (.slice none 0 0)) (by rfl) (by rfl) 26 _ M0.out (info31 _ _ _) (pc_size _ _ _ _ _ _) (pc_one _ _ _ _ _ _ _) ?_))
  refine bodyPost_ret (v := .tuple #[.agg (pcP Pm.zero (.slice none 0 0) (.slice none 0 0)), .int .i64 E]) (results_row_tmp (P := Try.prog) Try.results8 _ _ B 26 _ (0, 0) _ _ (by rfl) (by rfl) (setRow_heap _ _ _ _ _ _ M0.out) Try.underlying26 rfl (info31 _ _ _)) rfl ?_
  exact ⟨rfl, below_setRow MB.out (Nat.le_refl _)⟩
set_option maxRecDepth 100000 in
set_option maxHeartbeats 4000000 in
theorem decIdle (kd : Int) (x : Bool) (b off cap : Nat) (zs : List Int) (w : World) (hcl : cl kd zs.length = 0) (hz : Byt zs) (hr : Row w (some ⟨b, off, none⟩) zs) (hc : zs.length ≤ cap) (hcm : cap ≤ maxLen) (hi : ((tr (idl kd zs)).length : Int) != 0) :
    Calls Try.prog 8 #[.int .i64 kd, (.slice (some ⟨b, off, none⟩) zs.length cap), .bool x] w fun e w' => e = .returned (.tuple #[.agg (pcP Pm.zero (.slice none 0 0) (.slice none 0 0)), .int .i64 4]) ∧ Below w.heap.size w w' := by
  obtain ⟨hk, hlen⟩ := cl_zero hcl
  have hmo : (32 : Int) ≤ mo kd ∧ mo kd ≤ 64 := by rcases hk with rfl | rfl <;> decide
  have hI : (if kd = 1 then (18 : Int) else 0) = ((if kd = 1 then 18 else 0 : Nat) : Int) ∧ (if kd = 1 then (14 : Int) else 0) = ((if kd = 1 then 14 else 0 : Nat) : Int) ∧ (((if kd = 1 then 18 else 0) + (if kd = 1 then 14 else 0) : Nat) : Int) ≤ mo kd ∧ (zs.drop (if kd = 1 then 18 else 0)).take (if kd = 1 then 14 else 0) = idl kd zs := by
    rcases hk with rfl | rfl
    · exact ⟨rfl, rfl, by decide, rfl⟩
    · exact ⟨rfl, rfl, by decide, rfl⟩
  obtain ⟨hI1, hI2, hI3, hI4⟩ := hI
  have H54 : Hid (∀ W : World, Calls Try.prog 26 #[.int .i64 kd, (.slice (some ⟨b, off, none⟩) zs.length cap)] W fun e w' => e = .returned (.int .i64 0) ∧ Below W.heap.size W w') := fun W => by
    have := checkLength kd (some ⟨b, off, none⟩) zs.length cap W
    rwa [hcl] at this
  have H37 : Hid (∀ W : World, Calls Try.prog 27 #[.int .i64 kd] W fun e w' => e = .returned (.tuple #[.agg (msC kd), .int .i64 (ke kd)]) ∧ Below W.heap.size W w') := fun W => measures kd W
  have HM2 := TW.hide (fun W g h => msC_two kd W g h)
  rw [hI1, hI2] at HM2
  generalize hj0 : (if kd = 1 then 18 else 0 : Nat) = j0 at *
  generalize hn0 : (if kd = 1 then 14 else 0 : Nat) = n0' at *
  have H49 : Hid (∀ W : World, Calls Try.prog 25 #[.agg #[.int .i64 j0, .int .i64 n0'], (.slice (some ⟨b, off, none⟩) zs.length cap)] W fun e w' => e = .returned (.slice (some ⟨b, off + j0, none⟩) n0' (cap - j0)) ∧ Below W.heap.size W w') := fun W =>
    spanOf b off cap zs.length j0 n0' W (by omega) hc (by omega) hcm
  have H43 : Hid (∀ W : World, Below w.heap.size w W → Calls Try.prog 19 #[.slice (some ⟨b, off + j0, none⟩) n0' (cap - j0)] W fun e w' => e = .returned (.slice (some ⟨b, off + j0, none⟩) (tr (idl kd zs)).length (cap - j0)) ∧ ∃ q, w' = W.drewN q) := fun W hb => by
    have hl : ((zs.drop j0).take n0').length = n0' := sub_length zs j0 n0' (by omega)
    have := withoutEnd (some ⟨b, off + j0, none⟩) (cap - j0) ((zs.drop j0).take n0') W ((hr.below hb).sub j0 n0' (by omega)) (fun h => by cases h) (by rw [hl]; unfold maxLen at hcm; omega) (by rw [hl]; omega)
    rw [hl, hI4] at this
    exact this
  have hb := ((Below.refl w.heap.size w).alloc (Nat.le_refl _) (.cells (pcP Pm.zero (.slice none 0 0) (.slice none 0 0)) 26))
  have n0 := (heap_new w (.cells (pcP Pm.zero (.slice none 0 0) (.slice none 0 0)) 26))
  clear hj0 hn0 hI1 hI2 hI3 hI4
  go_enter Try.func8, Try.ntmps8
  refine wp_seq_k fun K hK => ?_
  have HK := TW.hide hK
  clear hK
  go_wp2
  refine HK.out _ _ ?_
  clear HK K
  change Code.wp _ _ _ _ (w.alloc (.cells (pcP Pm.zero (.slice none 0 0) (.slice none 0 0)) 26))
  generalize hWW : w.alloc (.cells (pcP Pm.zero (.slice none 0 0) (.slice none 0 0)) 26) = W at hb n0 ⊢
  have hW : W.heap.size = w.heap.size + 1 := by rw [← hWW]; simp
  clear hWW
  generalize hB : w.heap.size = B at *
  have N0 := TW.hide n0
  have NB := TW.hide hb
  clear n0 hb
  clear hW
  have h00 : ((0 : Int) != 0) = false := rfl
  refine wp_seq_k fun KK hK => ?_
  have HK := TW.hide hK
  clear hK
  go_wp2_with fail
  refine (H54.out _).mono ?_
  rintro e w1 ⟨rfl, hb1⟩
  have M0 := TW.hide (blk_keep N0.out hb1)
  have MB : Hid (Below B w w1) := below_row NB.out hb1 (by have := blk_lt N0.out; omega)
  clear hb1 N0 NB H54
  go_wp2
  refine HK.out _ _ ?_
  clear HK KK
  refine wp_seq_k fun KK hK => ?_
  have HK := TW.hide hK
  clear hK
  go_wp2_with fail
  refine (H37.out _).mono ?_
  rintro e w2 ⟨rfl, hb2⟩
  have N0 := TW.hide (blk_keep M0.out hb2)
  have NB : Hid (Below B w w2) := below_row MB.out hb2 (by have := blk_lt M0.out; omega)
  clear hb2 M0 MB H37
  go_wp2_with (first | (refine wpList_store_row (by rfl) 59 _ _ (by rfl) (w2.heap.size) (msC kd) (by rfl) (by rfl) 59 _ (heap_new w2 _) (info79 kd) (by rfl) (ms_one kd) ?_))
  have ng := setRow_heap _ _ _ (msC kd) _ _ (heap_new w2 (.cells #[.int .i64 0, .int .i64 0, .int .i64 0, .int .i64 0, .int .i64 0, .int .i64 0] 59))
  have bx := below_setRow (cs := msC kd) ((Below.refl w2.heap.size w2).alloc (Nat.le_refl _) (.cells #[.int .i64 0, .int .i64 0, .int .i64 0, .int .i64 0, .int .i64 0, .int .i64 0] 59)) (g := w2.heap.size) (Nat.le_refl _)
  generalize (w2.alloc (.cells #[.int .i64 0, .int .i64 0, .int .i64 0, .int .i64 0, .int .i64 0, .int .i64 0] 59)).setRow w2.heap.size (msC kd) = X2 at ng bx ⊢
  have M0 := TW.hide (blk_keep N0.out bx)
  have MB : Hid (Below B w X2) := below_row NB.out bx (by have := blk_lt N0.out; omega)
  have MR := TW.hide (HM2.out _ _ ng)
  clear N0 NB ng bx HM2
  generalize w2.heap.size = g at *
  refine HK.out _ _ ?_
  clear HK KK
  refine wp_seq_k fun KK hK => ?_
  have HK := TW.hide hK
  clear hK
  go_wp2_with (refine wpList_load_mid (by rfl) 52 _ (by rfl) g 4 (by rfl) [.int .i64 j0, .int .i64 n0'] _ MR.out Try.underlying52 rfl (by kernel_rfl) ?_)
  refine (H49.out _).mono ?_
  rintro e w3 ⟨rfl, hb3⟩
  have N0 := TW.hide (blk_keep M0.out hb3)
  have NB : Hid (Below B w w3) := below_row MB.out hb3 (by have := blk_lt M0.out; omega)
  clear hb3 M0 MB MR H49
  go_wp2_with fail
  refine (H43.out _ NB.out).mono ?_
  rintro e w4 ⟨rfl, qq, rfl⟩
  have M0 : Hid ((w3.drewN qq).heap[B]? = some (.cells (pcP Pm.zero (.slice none 0 0) (.slice none 0 0)) 26 (0, 0))) := N0.out
  have MB : Hid (Below B w (w3.drewN qq)) := below_drewN NB.out _
  clear N0 NB H43
  generalize w3.drewN qq = Y4 at *
  generalize (tr (idl kd zs)).length = L0 at *
  go_wp2_with (first | (refine wpList_store_row (by rfl) 26 _ _ (by rfl) (B) (pcP Pm.zero (.slice none 0 0) (.slice none 0 0)) (by rfl) (by rfl) 26 _ M0.out (info31 _ _ _) (pc_size _ _ _ _ _ _) (pc_one _ _ _ _ _ _ _) ?_))
  refine bodyPost_ret (v := .tuple #[.agg (pcP Pm.zero (.slice none 0 0) (.slice none 0 0)), .int .i64 4]) (results_row_tmp (P := Try.prog) Try.results8 _ _ B 26 _ (0, 0) _ _ (by rfl) (by rfl) (setRow_heap _ _ _ _ _ _ M0.out) Try.underlying26 rfl (info31 _ _ _)) rfl ?_
  exact ⟨rfl, below_setRow MB.out (Nat.le_refl _)⟩
theorem own_setRow {w : World} {B n p : Nat} {v : Value} {xs : List Value} {cs : Array Value} (h : w.ownsRow B 5 1 v n xs) (hp : p < B) : (w.setRow p cs).ownsRow B 5 1 v n xs := by
  obtain ⟨h1, h2⟩ := h
  refine ⟨h1, ?_⟩
  rcases h2 with h2 | ⟨g, cap, cur, e, hg, hh, rest⟩
  · exact .inl h2
  · refine .inr ⟨g, cap, cur, e, hg, ?_, rest⟩
    rw [setRow_other _ _ _ _ (by omega)]; exact hh
theorem sa_length (kd : Int) (zs : List Int) (hk : kd = 1 ∨ kd = 2) (hl : (zs.length : Int) = mo kd) : (saL kd zs).length = (mo kd / 4).toNat ∧ (peL kd zs).length = (mo kd / 4).toNat := by
  unfold saL peL
  have hs : 4 * (mo kd / 4).toNat ≤ zs.length := by rcases hk with rfl | rfl <;> simp [mo] at hl ⊢ <;> omega
  exact ⟨sub_length _ _ _ (by omega), sub_length _ _ _ (by omega)⟩
set_option maxRecDepth 100000 in
set_option maxHeartbeats 8000000 in
theorem decXof (kd : Int) (x : Bool) (b off cap : Nat) (zs : List Int) (w : World) (hcl : cl kd zs.length = 0) (hz : Byt zs) (hr : Row w (some ⟨b, off, none⟩) zs) (hc : zs.length ≤ cap) (hcm : cap ≤ maxLen) (hi : (((tr (idl kd zs)).length : Int) != 0) = false) (hxx : x = true ∧ ((dP kd x zs).xof == 0) = true) :
    Calls Try.prog 8 #[.int .i64 kd, (.slice (some ⟨b, off, none⟩) zs.length cap), .bool x] w fun e w' => e = .returned (.tuple #[.agg (pcP Pm.zero (.slice none 0 0) (.slice none 0 0)), .int .i64 24]) ∧ Below w.heap.size w w' := by
  obtain ⟨hk, hlen⟩ := cl_zero hcl
  have hmo : (32 : Int) ≤ mo kd ∧ mo kd ≤ 64 := by rcases hk with rfl | rfl <;> decide
  have hI : (if kd = 1 then (18 : Int) else 0) = ((if kd = 1 then 18 else 0 : Nat) : Int) ∧ (if kd = 1 then (14 : Int) else 0) = ((if kd = 1 then 14 else 0 : Nat) : Int) ∧ (((if kd = 1 then 18 else 0) + (if kd = 1 then 14 else 0) : Nat) : Int) ≤ mo kd ∧ (zs.drop (if kd = 1 then 18 else 0)).take (if kd = 1 then 14 else 0) = idl kd zs := by
    rcases hk with rfl | rfl
    · exact ⟨rfl, rfl, by decide, rfl⟩
    · exact ⟨rfl, rfl, by decide, rfl⟩
  obtain ⟨hI1, hI2, hI3, hI4⟩ := hI
  have H54 : Hid (∀ W : World, Calls Try.prog 26 #[.int .i64 kd, (.slice (some ⟨b, off, none⟩) zs.length cap)] W fun e w' => e = .returned (.int .i64 0) ∧ Below W.heap.size W w') := fun W => by
    have := checkLength kd (some ⟨b, off, none⟩) zs.length cap W
    rwa [hcl] at this
  have H37 : Hid (∀ W : World, Calls Try.prog 27 #[.int .i64 kd] W fun e w' => e = .returned (.tuple #[.agg (msC kd), .int .i64 (ke kd)]) ∧ Below W.heap.size W w') := fun W => measures kd W
  have HM2 := TW.hide (fun W g h => msC_two kd W g h)
  rw [hI1, hI2] at HM2
  generalize hj0 : (if kd = 1 then 18 else 0 : Nat) = j0 at *
  generalize hn0 : (if kd = 1 then 14 else 0 : Nat) = n0' at *
  have H49 : Hid (∀ W : World, Calls Try.prog 25 #[.agg #[.int .i64 j0, .int .i64 n0'], (.slice (some ⟨b, off, none⟩) zs.length cap)] W fun e w' => e = .returned (.slice (some ⟨b, off + j0, none⟩) n0' (cap - j0)) ∧ Below W.heap.size W w') := fun W =>
    spanOf b off cap zs.length j0 n0' W (by omega) hc (by omega) hcm
  have H43 : Hid (∀ W : World, Below w.heap.size w W → Calls Try.prog 19 #[.slice (some ⟨b, off + j0, none⟩) n0' (cap - j0)] W fun e w' => e = .returned (.slice (some ⟨b, off + j0, none⟩) (tr (idl kd zs)).length (cap - j0)) ∧ ∃ q, w' = W.drewN q) := fun W hb => by
    have hl : ((zs.drop j0).take n0').length = n0' := sub_length zs j0 n0' (by omega)
    have := withoutEnd (some ⟨b, off + j0, none⟩) (cap - j0) ((zs.drop j0).take n0') W ((hr.below hb).sub j0 n0' (by omega)) (fun h => by cases h) (by rw [hl]; unfold maxLen at hcm; omega) (by rw [hl]; omega)
    rw [hl, hI4] at this
    exact this
  have H40 : Hid (∀ (k : Nat) (W : World), 1 ≤ k → k ≤ 9 → Calls Try.prog 21 #[.int .i64 k, .int .i64 kd, .bool x] W fun e w' => e = .returned (.agg #[.int .i64 (rAt kd k), .int .i64 (pSz kd k x)]) ∧ Below W.heap.size W w') := fun k W h1 h9 => placeOf k kd x W (by omega) (by omega)
  have H56 : Hid (∀ (k : Nat) (W : World), 1 ≤ k → k ≤ 9 → Below w.heap.size w W → Calls Try.prog 29 #[.agg #[.int .i64 (rAt kd k), .int .i64 (pSz kd k x)], (.slice (some ⟨b, off, none⟩) zs.length cap)] W fun e w' => e = .returned (.int .u64 ((dP kd x zs).nv k)) ∧ Below W.heap.size W w') := fun k W h1 h9 hb => by
    rw [dP_nv kd x zs k (by omega) (by omega)]
    exact fieldLoad kd k x (some ⟨b, off, none⟩) cap zs W hz (hr.below hb) (by omega) hk hlen (by omega) (by omega)
  have HBD : Hid (∀ k : Nat, 1 ≤ k → k ≤ 9 → 0 ≤ (dP kd x zs).nv k ∧ (dP kd x zs).nv k < 18446744073709551616 ∧ ((k : Int) ≠ 6 → (dP kd x zs).nv k < 4294967296) ∧ ((k : Int) ≠ 6 → (k : Int) ≠ 5 → (k : Int) ≠ 7 → (dP kd x zs).nv k ≤ 255)) := fun k h1 h9 => by
    rw [dP_nv kd x zs k (by omega) (by omega)]
    exact fV_bd kd k x zs hz hk (by omega) (by omega)
  have hs4 : 4 * (mo kd / 4).toNat = zs.length := by rcases hk with rfl | rfl <;> simp [mo] at hlen ⊢ <;> omega
  have hat : rAt kd 10 = ((2 * (mo kd / 4).toNat : Nat) : Int) ∧ rSz kd 10 = ((mo kd / 4).toNat : Int) ∧ rAt kd 11 = ((3 * (mo kd / 4).toNat : Nat) : Int) ∧ rSz kd 11 = ((mo kd / 4).toNat : Int) := by rcases hk with rfl | rfl <;> decide
  have H48 := TW.hide (fun W => whole 10 kd W (by omega) (by omega))
  have H48b := TW.hide (fun W => whole 11 kd W (by omega) (by omega))
  rw [hat.1, hat.2.1] at H48
  rw [hat.2.2.1, hat.2.2.2] at H48b
  obtain ⟨hsl, hpl⟩ := sa_length kd zs hk hlen
  have hsr : ∀ W, Below w.heap.size w W → Row W (some ⟨b, off + 2 * (mo kd / 4).toNat, none⟩) (saL kd zs) := fun W hb => (hr.below hb).sub _ _ (by omega)
  have hpr : ∀ W, Below w.heap.size w W → Row W (some ⟨b, off + 3 * (mo kd / 4).toNat, none⟩) (peL kd zs) := fun W hb => (hr.below hb).sub _ _ (by omega)
  have H19 := TW.hide (fun W (hb : Below w.heap.size w W) => normalP kd (dP kd x zs) (dP_Ok kd x zs hz hk) (some ⟨b, off + 2 * (mo kd / 4).toNat, none⟩) (some ⟨b, off + 3 * (mo kd / 4).toNat, none⟩) (cap - 2 * (mo kd / 4).toNat) (cap - 3 * (mo kd / 4).toNat) (saL kd zs) (peL kd zs) W
    ⟨hsr W hb, (fun h => by cases h), by rw [hsl]; unfold maxLen at hcm; omega, by rw [hsl]; omega, (hz.drop _).take _⟩ ⟨hpr W hb, (fun h => by cases h), by rw [hpl]; unfold maxLen at hcm; omega, by rw [hpl]; omega, (hz.drop _).take _⟩)
  rw [hsl, hpl] at H19
  have hs1 : 1 ≤ (mo kd / 4).toNat := by rcases hk with rfl | rfl <;> decide
  generalize hS4 : (mo kd / 4).toNat = s4 at *
  have H49b : Hid (∀ W : World, Calls Try.prog 25 #[.agg #[.int .i64 ((2 * s4 : Nat) : Int), .int .i64 (s4 : Int)], (.slice (some ⟨b, off, none⟩) zs.length cap)] W fun e w' => e = .returned (.slice (some ⟨b, off + 2 * s4, none⟩) s4 (cap - 2 * s4)) ∧ Below W.heap.size W w') := fun W =>
    spanOf b off cap zs.length (2 * s4) s4 W (by omega) hc (by omega) hcm
  have H49c : Hid (∀ W : World, Calls Try.prog 25 #[.agg #[.int .i64 ((3 * s4 : Nat) : Int), .int .i64 (s4 : Int)], (.slice (some ⟨b, off, none⟩) zs.length cap)] W fun e w' => e = .returned (.slice (some ⟨b, off + 3 * s4, none⟩) s4 (cap - 3 * s4)) ∧ Below W.heap.size W w') := fun W =>
    spanOf b off cap zs.length (3 * s4) s4 W (by omega) hc (by omega) hcm
  have HXX := TW.hide hxx
  clear hsr hpr hsl hpl hat hS4 hs1 hs4 hxx hcl hz hr hc hcm hlen hmo
  have hb := ((Below.refl w.heap.size w).alloc (Nat.le_refl _) (.cells (pcP Pm.zero (.slice none 0 0) (.slice none 0 0)) 26))
  have n0 := (heap_new w (.cells (pcP Pm.zero (.slice none 0 0) (.slice none 0 0)) 26))
  clear hj0 hn0 hI1 hI2 hI3 hI4
  go_enter Try.func8, Try.ntmps8
  refine wp_seq_k fun K hK => ?_
  have HK := TW.hide hK
  clear hK
  go_wp2
  refine HK.out _ _ ?_
  clear HK K
  change Code.wp _ _ _ _ (w.alloc (.cells (pcP Pm.zero (.slice none 0 0) (.slice none 0 0)) 26))
  generalize hWW : w.alloc (.cells (pcP Pm.zero (.slice none 0 0) (.slice none 0 0)) 26) = W at hb n0 ⊢
  have hW : W.heap.size = w.heap.size + 1 := by rw [← hWW]; simp
  clear hWW
  generalize hB : w.heap.size = B at *
  have N0 := TW.hide n0
  have NB := TW.hide hb
  clear n0 hb
  clear hW
  have h00 : ((0 : Int) != 0) = false := rfl
  refine wp_seq_k fun KK hK => ?_
  have HK := TW.hide hK
  clear hK
  go_wp2_with fail
  refine (H54.out _).mono ?_
  rintro e w1 ⟨rfl, hb1⟩
  have M0 := TW.hide (blk_keep N0.out hb1)
  have MB : Hid (Below B w w1) := below_row NB.out hb1 (by have := blk_lt N0.out; omega)
  clear hb1 N0 NB H54
  go_wp2
  refine HK.out _ _ ?_
  clear HK KK
  refine wp_seq_k fun KK hK => ?_
  have HK := TW.hide hK
  clear hK
  go_wp2_with fail
  refine (H37.out _).mono ?_
  rintro e w2 ⟨rfl, hb2⟩
  have N0 := TW.hide (blk_keep M0.out hb2)
  have NB : Hid (Below B w w2) := below_row MB.out hb2 (by have := blk_lt M0.out; omega)
  clear hb2 M0 MB H37
  go_wp2_with (first | (refine wpList_store_row (by rfl) 59 _ _ (by rfl) (w2.heap.size) (msC kd) (by rfl) (by rfl) 59 _ (heap_new w2 _) (info79 kd) (by rfl) (ms_one kd) ?_))
  have ng := setRow_heap _ _ _ (msC kd) _ _ (heap_new w2 (.cells #[.int .i64 0, .int .i64 0, .int .i64 0, .int .i64 0, .int .i64 0, .int .i64 0] 59))
  have bx := below_setRow (cs := msC kd) ((Below.refl w2.heap.size w2).alloc (Nat.le_refl _) (.cells #[.int .i64 0, .int .i64 0, .int .i64 0, .int .i64 0, .int .i64 0, .int .i64 0] 59)) (g := w2.heap.size) (Nat.le_refl _)
  generalize (w2.alloc (.cells #[.int .i64 0, .int .i64 0, .int .i64 0, .int .i64 0, .int .i64 0, .int .i64 0] 59)).setRow w2.heap.size (msC kd) = X2 at ng bx ⊢
  have M0 := TW.hide (blk_keep N0.out bx)
  have MB : Hid (Below B w X2) := below_row NB.out bx (by have := blk_lt N0.out; omega)
  have MR := TW.hide (HM2.out _ _ ng)
  clear N0 NB ng bx HM2
  generalize w2.heap.size = g at *
  refine HK.out _ _ ?_
  clear HK KK
  refine wp_seq_k fun KK hK => ?_
  have HK := TW.hide hK
  clear hK
  go_wp2_with (refine wpList_load_mid (by rfl) 52 _ (by rfl) g 4 (by rfl) [.int .i64 j0, .int .i64 n0'] _ MR.out Try.underlying52 rfl (by kernel_rfl) ?_)
  refine (H49.out _).mono ?_
  rintro e w3 ⟨rfl, hb3⟩
  have N0 := TW.hide (blk_keep M0.out hb3)
  have NB : Hid (Below B w w3) := below_row MB.out hb3 (by have := blk_lt M0.out; omega)
  clear hb3 M0 MB MR H49
  go_wp2_with fail
  refine (H43.out _ NB.out).mono ?_
  rintro e w4 ⟨rfl, qq, rfl⟩
  have M0 : Hid ((w3.drewN qq).heap[B]? = some (.cells (pcP Pm.zero (.slice none 0 0) (.slice none 0 0)) 26 (0, 0))) := N0.out
  have MB : Hid (Below B w (w3.drewN qq)) := below_drewN NB.out _
  clear N0 NB H43
  generalize w3.drewN qq = Y4 at *
  generalize (tr (idl kd zs)).length = L0 at *
  go_wp2
  refine HK.out _ _ ?_
  clear HK KK hi
  refine wp_seq_k fun KK hK => ?_
  have HK := TW.hide hK
  clear hK
  go_wp2
  refine HK.out _ _ ?_
  clear HK KK
  have nh : (Y4.alloc (.cells #[.int .i64 0, .int .i64 0, .int .i64 0, .int .i64 0, .int .u32 0, .int .u64 0, .int .u32 0, .int .i64 0, .int .i64 0, .slice none 0 0, .slice none 0 0] 26)).heap[Y4.heap.size]? = some (.cells (pcP Pm.zero (.slice none 0 0) (.slice none 0 0)) 26 (0, 0)) := heap_new Y4 _
  have bx := (Below.refl Y4.heap.size Y4).alloc (Nat.le_refl _) (.cells #[.int .i64 0, .int .i64 0, .int .i64 0, .int .i64 0, .int .u32 0, .int .u64 0, .int .u32 0, .int .i64 0, .int .i64 0, .slice none 0 0, .slice none 0 0] 26)
  have hlt := blk_lt M0.out
  generalize Y4.alloc (.cells #[.int .i64 0, .int .i64 0, .int .i64 0, .int .i64 0, .int .u32 0, .int .u64 0, .int .u32 0, .int .i64 0, .int .i64 0, .slice none 0 0, .slice none 0 0] 26) = X4 at nh bx ⊢
  have N0 := TW.hide (blk_keep M0.out bx)
  have NB : Hid (Below B w X4) := below_row MB.out bx (by omega)
  have NH := TW.hide nh
  clear M0 MB nh bx
  generalize hh0 : Y4.heap.size = h at *
  clear hh0
  go_wp2
  go_loopw [12] (fun i wr => ∃ k : Nat, 1 ≤ k ∧ k ≤ 10 ∧ i = .int .i64 k ∧ wr.heap[B]? = some (.cells (pcP Pm.zero (.slice none 0 0) (.slice none 0 0)) 26 (0, 0)) ∧ wr.heap[h]? = some (.cells (pcP (upP (dP kd x zs) k) (.slice none 0 0) (.slice none 0 0)) 26 (0, 0)) ∧ Below B w wr) (fun i _ => 10 - (intOf i).toNat)
  case atStart => exact ⟨1, Nat.le_refl _, by omega, rfl, N0.out, NH.out, NB.out⟩
  case round =>
    rename_i Q1 K1 a1
    obtain ⟨k, hk1, hk10, rfl, n0, nh, hb⟩ := hrel
    clear N0 NH NB X4
    have N0 := TW.hide n0
    have NH := TW.hide nh
    have NB := TW.hide hb
    clear n0 nh hb
    by_cases hlt9 : k < 10
    · have c40 := TW.hide (fun W => H40.out k W hk1 (by omega))
      have c56 := TW.hide (fun W hb => H56.out k W hk1 (by omega) hb)
      have hset := TW.hide (upP_set (dP kd x zs) k (.slice none 0 0) (.slice none 0 0) hk1 (by omega))
      obtain ⟨d0, d1, d2, d3⟩ := HBD.out k hk1 (by omega)
      have c55 : Hid (∀ W : World, W.heap[h]? = some (.cells (pcP (upP (dP kd x zs) k) (.slice none 0 0) (.slice none 0 0)) 26 (0, 0)) → Calls Try.prog 28 #[.pointer (some ⟨h, 0, none⟩), .int .i64 k, .int .u64 ((dP kd x zs).nv k)] W fun e w' => e = .returned (.tuple #[]) ∧ w' = W.setCell ⟨h, ((k : Int) - 1).toNat, none⟩ (nk k ((dP kd x zs).nv k))) := fun W hW =>
        setNumber h _ _ _ _ _ _ _ _ _ _ _ k ((dP kd x zs).nv k) W hW (by omega) (by omega) d0 d2 d3 d1
      clear d0 d1 d2 d3
      generalize (dP kd x zs).nv k = v at *
      generalize nk k v = nv at *
      generalize rAt kd k = ra at *
      generalize pSz kd k x = pz at *
      have k9 : (k : Int) ≤ 9 := by omega
      go_wp2_with fail
      refine (c40.out _).mono ?_
      rintro e w5 ⟨rfl, hb5⟩
      have M0 := TW.hide (blk_keep N0.out hb5)
      have MH := TW.hide (blk_keep NH.out hb5)
      have MB : Hid (Below B w w5) := below_row NB.out hb5 (by have := blk_lt N0.out; omega)
      clear hb5 N0 NH NB
      go_wp2_with fail
      refine (c56.out _ MB.out).mono ?_
      rintro e w6 ⟨rfl, hb6⟩
      have N0 := TW.hide (blk_keep M0.out hb6)
      have NH := TW.hide (blk_keep MH.out hb6)
      have NB : Hid (Below B w w6) := below_row MB.out hb6 (by have := blk_lt M0.out; omega)
      clear hb6 M0 MH MB
      go_wp2_with fail
      refine (c55.out _ NH.out).mono ?_
      rintro e w7 ⟨rfl, rfl⟩
      have m0 := blk_other (p := h) (o := ((k : Int) - 1).toNat) (u := nv) N0.out (by omega)
      have mh := blk_set (i := ((k : Int) - 1).toNat) (u := nv) NH.out
      rw [hset.out] at mh
      have mb := NB.out.setCell (p := ⟨h, ((k : Int) - 1).toNat, none⟩) (by simp; omega) nv
      clear N0 NH NB
      generalize w6.setCell ⟨h, ((k : Int) - 1).toNat, none⟩ nv = Y7 at *
      have M0 := TW.hide m0
      have MH := TW.hide mh
      have MB := TW.hide mb
      clear m0 mh mb
      go_wp2
      (first | (go_roundw; case' rel => skip) | (refine ⟨?_, ?measure⟩; (repeat apply Exists.intro); refine ⟨?rel, rfl⟩))
      case rel => exact ⟨k + 1, by omega, by omega, by go_num, M0.out, MH.out, MB.out⟩
      case measure => simp [intOf]; omega
    · obtain rfl : k = 10 := by omega
      have HA := TW.hide a1
      clear a1
      go_wp2
      refine HA.out _ _ ?_
      clear HA H40 H56 HBD
      rw [upP_ten] at NH
      have hcx : wr.cell? ⟨h, 6, none⟩ = some (.int .u32 (dP kd x zs).xof) := blk_cell NH.out rfl
      have e0 : ((dP kd x zs).xof == 0) = true := HXX.out.2
      have ex : x = true := HXX.out.1
      subst ex
      generalize (dP kd true zs) = PP at *
      generalize PP.xof = xf at *
      have M0 := N0
      have MB := NB
      clear N0 NB
      go_wp2_with (first | (refine wpList_store_row (by rfl) 26 _ _ (by rfl) (B) (pcP Pm.zero (.slice none 0 0) (.slice none 0 0)) (by rfl) (by rfl) 26 _ M0.out (info31 _ _ _) (pc_size _ _ _ _ _ _) (pc_one _ _ _ _ _ _ _) ?_))
      refine bodyPost_ret (v := .tuple #[.agg (pcP Pm.zero (.slice none 0 0) (.slice none 0 0)), .int .i64 24]) (results_row_tmp (P := Try.prog) Try.results8 _ _ B 26 _ (0, 0) _ _ (by rfl) (by rfl) (setRow_heap _ _ _ _ _ _ M0.out) Try.underlying26 rfl (info31 _ _ _)) rfl ?_
      exact ⟨rfl, below_setRow MB.out (Nat.le_refl _)⟩
set_option maxRecDepth 100000 in
set_option maxHeartbeats 8000000 in
theorem decOk (kd : Int) (x : Bool) (b off cap : Nat) (zs : List Int) (w : World) (hcl : cl kd zs.length = 0) (hz : Byt zs) (hr : Row w (some ⟨b, off, none⟩) zs) (hc : zs.length ≤ cap) (hcm : cap ≤ maxLen) (hi : (((tr (idl kd zs)).length : Int) != 0) = false) (hxx : (x && ((dP kd x zs).xof == 0)) = false) :
    Calls Try.prog 8 #[.int .i64 kd, (.slice (some ⟨b, off, none⟩) zs.length cap), .bool x] w fun e w' => ∃ u v, e = .returned (.tuple #[.agg (pcP (nP ((dP kd x zs).ck kd (mo kd / 4).toNat (mo kd / 4).toNat) (dP kd x zs)) u v), .int .i64 ((dP kd x zs).ck kd (mo kd / 4).toNat (mo kd / 4).toNat)]) ∧ w'.ownsRow w.heap.size 5 1 u (nS ((dP kd x zs).ck kd (mo kd / 4).toNat (mo kd / 4).toNat) (saL kd zs)).length (vs (nS ((dP kd x zs).ck kd (mo kd / 4).toNat (mo kd / 4).toNat) (saL kd zs))) ∧ w'.ownsRow w.heap.size 5 1 v (nS ((dP kd x zs).ck kd (mo kd / 4).toNat (mo kd / 4).toNat) (peL kd zs)).length (vs (nS ((dP kd x zs).ck kd (mo kd / 4).toNat (mo kd / 4).toNat) (peL kd zs))) ∧ Below w.heap.size w w' := by
  obtain ⟨hk, hlen⟩ := cl_zero hcl
  have hmo : (32 : Int) ≤ mo kd ∧ mo kd ≤ 64 := by rcases hk with rfl | rfl <;> decide
  have hI : (if kd = 1 then (18 : Int) else 0) = ((if kd = 1 then 18 else 0 : Nat) : Int) ∧ (if kd = 1 then (14 : Int) else 0) = ((if kd = 1 then 14 else 0 : Nat) : Int) ∧ (((if kd = 1 then 18 else 0) + (if kd = 1 then 14 else 0) : Nat) : Int) ≤ mo kd ∧ (zs.drop (if kd = 1 then 18 else 0)).take (if kd = 1 then 14 else 0) = idl kd zs := by
    rcases hk with rfl | rfl
    · exact ⟨rfl, rfl, by decide, rfl⟩
    · exact ⟨rfl, rfl, by decide, rfl⟩
  obtain ⟨hI1, hI2, hI3, hI4⟩ := hI
  have H54 : Hid (∀ W : World, Calls Try.prog 26 #[.int .i64 kd, (.slice (some ⟨b, off, none⟩) zs.length cap)] W fun e w' => e = .returned (.int .i64 0) ∧ Below W.heap.size W w') := fun W => by
    have := checkLength kd (some ⟨b, off, none⟩) zs.length cap W
    rwa [hcl] at this
  have H37 : Hid (∀ W : World, Calls Try.prog 27 #[.int .i64 kd] W fun e w' => e = .returned (.tuple #[.agg (msC kd), .int .i64 (ke kd)]) ∧ Below W.heap.size W w') := fun W => measures kd W
  have HM2 := TW.hide (fun W g h => msC_two kd W g h)
  rw [hI1, hI2] at HM2
  generalize hj0 : (if kd = 1 then 18 else 0 : Nat) = j0 at *
  generalize hn0 : (if kd = 1 then 14 else 0 : Nat) = n0' at *
  have H49 : Hid (∀ W : World, Calls Try.prog 25 #[.agg #[.int .i64 j0, .int .i64 n0'], (.slice (some ⟨b, off, none⟩) zs.length cap)] W fun e w' => e = .returned (.slice (some ⟨b, off + j0, none⟩) n0' (cap - j0)) ∧ Below W.heap.size W w') := fun W =>
    spanOf b off cap zs.length j0 n0' W (by omega) hc (by omega) hcm
  have H43 : Hid (∀ W : World, Below w.heap.size w W → Calls Try.prog 19 #[.slice (some ⟨b, off + j0, none⟩) n0' (cap - j0)] W fun e w' => e = .returned (.slice (some ⟨b, off + j0, none⟩) (tr (idl kd zs)).length (cap - j0)) ∧ ∃ q, w' = W.drewN q) := fun W hb => by
    have hl : ((zs.drop j0).take n0').length = n0' := sub_length zs j0 n0' (by omega)
    have := withoutEnd (some ⟨b, off + j0, none⟩) (cap - j0) ((zs.drop j0).take n0') W ((hr.below hb).sub j0 n0' (by omega)) (fun h => by cases h) (by rw [hl]; unfold maxLen at hcm; omega) (by rw [hl]; omega)
    rw [hl, hI4] at this
    exact this
  have H40 : Hid (∀ (k : Nat) (W : World), 1 ≤ k → k ≤ 9 → Calls Try.prog 21 #[.int .i64 k, .int .i64 kd, .bool x] W fun e w' => e = .returned (.agg #[.int .i64 (rAt kd k), .int .i64 (pSz kd k x)]) ∧ Below W.heap.size W w') := fun k W h1 h9 => placeOf k kd x W (by omega) (by omega)
  have H56 : Hid (∀ (k : Nat) (W : World), 1 ≤ k → k ≤ 9 → Below w.heap.size w W → Calls Try.prog 29 #[.agg #[.int .i64 (rAt kd k), .int .i64 (pSz kd k x)], (.slice (some ⟨b, off, none⟩) zs.length cap)] W fun e w' => e = .returned (.int .u64 ((dP kd x zs).nv k)) ∧ Below W.heap.size W w') := fun k W h1 h9 hb => by
    rw [dP_nv kd x zs k (by omega) (by omega)]
    exact fieldLoad kd k x (some ⟨b, off, none⟩) cap zs W hz (hr.below hb) (by omega) hk hlen (by omega) (by omega)
  have HBD : Hid (∀ k : Nat, 1 ≤ k → k ≤ 9 → 0 ≤ (dP kd x zs).nv k ∧ (dP kd x zs).nv k < 18446744073709551616 ∧ ((k : Int) ≠ 6 → (dP kd x zs).nv k < 4294967296) ∧ ((k : Int) ≠ 6 → (k : Int) ≠ 5 → (k : Int) ≠ 7 → (dP kd x zs).nv k ≤ 255)) := fun k h1 h9 => by
    rw [dP_nv kd x zs k (by omega) (by omega)]
    exact fV_bd kd k x zs hz hk (by omega) (by omega)
  have hs4 : 4 * (mo kd / 4).toNat = zs.length := by rcases hk with rfl | rfl <;> simp [mo] at hlen ⊢ <;> omega
  have hat : rAt kd 10 = ((2 * (mo kd / 4).toNat : Nat) : Int) ∧ rSz kd 10 = ((mo kd / 4).toNat : Int) ∧ rAt kd 11 = ((3 * (mo kd / 4).toNat : Nat) : Int) ∧ rSz kd 11 = ((mo kd / 4).toNat : Int) := by rcases hk with rfl | rfl <;> decide
  have H48 := TW.hide (fun W => whole 10 kd W (by omega) (by omega))
  have H48b := TW.hide (fun W => whole 11 kd W (by omega) (by omega))
  rw [hat.1, hat.2.1] at H48
  rw [hat.2.2.1, hat.2.2.2] at H48b
  obtain ⟨hsl, hpl⟩ := sa_length kd zs hk hlen
  have hsr : ∀ W, Below w.heap.size w W → Row W (some ⟨b, off + 2 * (mo kd / 4).toNat, none⟩) (saL kd zs) := fun W hb => (hr.below hb).sub _ _ (by omega)
  have hpr : ∀ W, Below w.heap.size w W → Row W (some ⟨b, off + 3 * (mo kd / 4).toNat, none⟩) (peL kd zs) := fun W hb => (hr.below hb).sub _ _ (by omega)
  have H19 := TW.hide (fun W (hb : Below w.heap.size w W) => normalP kd (dP kd x zs) (dP_Ok kd x zs hz hk) (some ⟨b, off + 2 * (mo kd / 4).toNat, none⟩) (some ⟨b, off + 3 * (mo kd / 4).toNat, none⟩) (cap - 2 * (mo kd / 4).toNat) (cap - 3 * (mo kd / 4).toNat) (saL kd zs) (peL kd zs) W
    ⟨hsr W hb, (fun h => by cases h), by rw [hsl]; unfold maxLen at hcm; omega, by rw [hsl]; omega, (hz.drop _).take _⟩ ⟨hpr W hb, (fun h => by cases h), by rw [hpl]; unfold maxLen at hcm; omega, by rw [hpl]; omega, (hz.drop _).take _⟩)
  rw [hsl, hpl] at H19
  have hs1 : 1 ≤ (mo kd / 4).toNat := by rcases hk with rfl | rfl <;> decide
  generalize hS4 : (mo kd / 4).toNat = s4 at *
  have H49b : Hid (∀ W : World, Calls Try.prog 25 #[.agg #[.int .i64 ((2 * s4 : Nat) : Int), .int .i64 (s4 : Int)], (.slice (some ⟨b, off, none⟩) zs.length cap)] W fun e w' => e = .returned (.slice (some ⟨b, off + 2 * s4, none⟩) s4 (cap - 2 * s4)) ∧ Below W.heap.size W w') := fun W =>
    spanOf b off cap zs.length (2 * s4) s4 W (by omega) hc (by omega) hcm
  have H49c : Hid (∀ W : World, Calls Try.prog 25 #[.agg #[.int .i64 ((3 * s4 : Nat) : Int), .int .i64 (s4 : Int)], (.slice (some ⟨b, off, none⟩) zs.length cap)] W fun e w' => e = .returned (.slice (some ⟨b, off + 3 * s4, none⟩) s4 (cap - 3 * s4)) ∧ Below W.heap.size W w') := fun W =>
    spanOf b off cap zs.length (3 * s4) s4 W (by omega) hc (by omega) hcm
  have HXX := TW.hide hxx
  clear hsr hpr hsl hpl hat hS4 hs1 hs4 hxx hcl hz hr hc hcm hlen hmo
  have hb := ((Below.refl w.heap.size w).alloc (Nat.le_refl _) (.cells (pcP Pm.zero (.slice none 0 0) (.slice none 0 0)) 26))
  have n0 := (heap_new w (.cells (pcP Pm.zero (.slice none 0 0) (.slice none 0 0)) 26))
  clear hj0 hn0 hI1 hI2 hI3 hI4
  go_enter Try.func8, Try.ntmps8
  refine wp_seq_k fun K hK => ?_
  have HK := TW.hide hK
  clear hK
  go_wp2
  refine HK.out _ _ ?_
  clear HK K
  change Code.wp _ _ _ _ (w.alloc (.cells (pcP Pm.zero (.slice none 0 0) (.slice none 0 0)) 26))
  generalize hWW : w.alloc (.cells (pcP Pm.zero (.slice none 0 0) (.slice none 0 0)) 26) = W at hb n0 ⊢
  have hW : W.heap.size = w.heap.size + 1 := by rw [← hWW]; simp
  clear hWW
  generalize hB : w.heap.size = B at *
  have N0 := TW.hide n0
  have NB := TW.hide hb
  clear n0 hb
  clear hW
  have h00 : ((0 : Int) != 0) = false := rfl
  refine wp_seq_k fun KK hK => ?_
  have HK := TW.hide hK
  clear hK
  go_wp2_with fail
  refine (H54.out _).mono ?_
  rintro e w1 ⟨rfl, hb1⟩
  have M0 := TW.hide (blk_keep N0.out hb1)
  have MB : Hid (Below B w w1) := below_row NB.out hb1 (by have := blk_lt N0.out; omega)
  clear hb1 N0 NB H54
  go_wp2
  refine HK.out _ _ ?_
  clear HK KK
  refine wp_seq_k fun KK hK => ?_
  have HK := TW.hide hK
  clear hK
  go_wp2_with fail
  refine (H37.out _).mono ?_
  rintro e w2 ⟨rfl, hb2⟩
  have N0 := TW.hide (blk_keep M0.out hb2)
  have NB : Hid (Below B w w2) := below_row MB.out hb2 (by have := blk_lt M0.out; omega)
  clear hb2 M0 MB H37
  go_wp2_with (first | (refine wpList_store_row (by rfl) 59 _ _ (by rfl) (w2.heap.size) (msC kd) (by rfl) (by rfl) 59 _ (heap_new w2 _) (info79 kd) (by rfl) (ms_one kd) ?_))
  have ng := setRow_heap _ _ _ (msC kd) _ _ (heap_new w2 (.cells #[.int .i64 0, .int .i64 0, .int .i64 0, .int .i64 0, .int .i64 0, .int .i64 0] 59))
  have bx := below_setRow (cs := msC kd) ((Below.refl w2.heap.size w2).alloc (Nat.le_refl _) (.cells #[.int .i64 0, .int .i64 0, .int .i64 0, .int .i64 0, .int .i64 0, .int .i64 0] 59)) (g := w2.heap.size) (Nat.le_refl _)
  generalize (w2.alloc (.cells #[.int .i64 0, .int .i64 0, .int .i64 0, .int .i64 0, .int .i64 0, .int .i64 0] 59)).setRow w2.heap.size (msC kd) = X2 at ng bx ⊢
  have M0 := TW.hide (blk_keep N0.out bx)
  have MB : Hid (Below B w X2) := below_row NB.out bx (by have := blk_lt N0.out; omega)
  have MR := TW.hide (HM2.out _ _ ng)
  clear N0 NB ng bx HM2
  generalize w2.heap.size = g at *
  refine HK.out _ _ ?_
  clear HK KK
  refine wp_seq_k fun KK hK => ?_
  have HK := TW.hide hK
  clear hK
  go_wp2_with (refine wpList_load_mid (by rfl) 52 _ (by rfl) g 4 (by rfl) [.int .i64 j0, .int .i64 n0'] _ MR.out Try.underlying52 rfl (by kernel_rfl) ?_)
  refine (H49.out _).mono ?_
  rintro e w3 ⟨rfl, hb3⟩
  have N0 := TW.hide (blk_keep M0.out hb3)
  have NB : Hid (Below B w w3) := below_row MB.out hb3 (by have := blk_lt M0.out; omega)
  clear hb3 M0 MB MR H49
  go_wp2_with fail
  refine (H43.out _ NB.out).mono ?_
  rintro e w4 ⟨rfl, qq, rfl⟩
  have M0 : Hid ((w3.drewN qq).heap[B]? = some (.cells (pcP Pm.zero (.slice none 0 0) (.slice none 0 0)) 26 (0, 0))) := N0.out
  have MB : Hid (Below B w (w3.drewN qq)) := below_drewN NB.out _
  clear N0 NB H43
  generalize w3.drewN qq = Y4 at *
  generalize (tr (idl kd zs)).length = L0 at *
  go_wp2
  refine HK.out _ _ ?_
  clear HK KK hi
  refine wp_seq_k fun KK hK => ?_
  have HK := TW.hide hK
  clear hK
  go_wp2
  refine HK.out _ _ ?_
  clear HK KK
  have nh : (Y4.alloc (.cells #[.int .i64 0, .int .i64 0, .int .i64 0, .int .i64 0, .int .u32 0, .int .u64 0, .int .u32 0, .int .i64 0, .int .i64 0, .slice none 0 0, .slice none 0 0] 26)).heap[Y4.heap.size]? = some (.cells (pcP Pm.zero (.slice none 0 0) (.slice none 0 0)) 26 (0, 0)) := heap_new Y4 _
  have bx := (Below.refl Y4.heap.size Y4).alloc (Nat.le_refl _) (.cells #[.int .i64 0, .int .i64 0, .int .i64 0, .int .i64 0, .int .u32 0, .int .u64 0, .int .u32 0, .int .i64 0, .int .i64 0, .slice none 0 0, .slice none 0 0] 26)
  have hlt := blk_lt M0.out
  generalize Y4.alloc (.cells #[.int .i64 0, .int .i64 0, .int .i64 0, .int .i64 0, .int .u32 0, .int .u64 0, .int .u32 0, .int .i64 0, .int .i64 0, .slice none 0 0, .slice none 0 0] 26) = X4 at nh bx ⊢
  have N0 := TW.hide (blk_keep M0.out bx)
  have NB : Hid (Below B w X4) := below_row MB.out bx (by omega)
  have NH := TW.hide nh
  clear M0 MB nh bx
  generalize hh0 : Y4.heap.size = h at *
  clear hh0
  go_wp2
  go_loopw [12] (fun i wr => ∃ k : Nat, 1 ≤ k ∧ k ≤ 10 ∧ i = .int .i64 k ∧ wr.heap[B]? = some (.cells (pcP Pm.zero (.slice none 0 0) (.slice none 0 0)) 26 (0, 0)) ∧ wr.heap[h]? = some (.cells (pcP (upP (dP kd x zs) k) (.slice none 0 0) (.slice none 0 0)) 26 (0, 0)) ∧ Below B w wr) (fun i _ => 10 - (intOf i).toNat)
  case atStart => exact ⟨1, Nat.le_refl _, by omega, rfl, N0.out, NH.out, NB.out⟩
  case round =>
    rename_i Q1 K1 a1
    obtain ⟨k, hk1, hk10, rfl, n0, nh, hb⟩ := hrel
    clear N0 NH NB X4
    have N0 := TW.hide n0
    have NH := TW.hide nh
    have NB := TW.hide hb
    clear n0 nh hb
    by_cases hlt9 : k < 10
    · have c40 := TW.hide (fun W => H40.out k W hk1 (by omega))
      have c56 := TW.hide (fun W hb => H56.out k W hk1 (by omega) hb)
      have hset := TW.hide (upP_set (dP kd x zs) k (.slice none 0 0) (.slice none 0 0) hk1 (by omega))
      obtain ⟨d0, d1, d2, d3⟩ := HBD.out k hk1 (by omega)
      have c55 : Hid (∀ W : World, W.heap[h]? = some (.cells (pcP (upP (dP kd x zs) k) (.slice none 0 0) (.slice none 0 0)) 26 (0, 0)) → Calls Try.prog 28 #[.pointer (some ⟨h, 0, none⟩), .int .i64 k, .int .u64 ((dP kd x zs).nv k)] W fun e w' => e = .returned (.tuple #[]) ∧ w' = W.setCell ⟨h, ((k : Int) - 1).toNat, none⟩ (nk k ((dP kd x zs).nv k))) := fun W hW =>
        setNumber h _ _ _ _ _ _ _ _ _ _ _ k ((dP kd x zs).nv k) W hW (by omega) (by omega) d0 d2 d3 d1
      clear d0 d1 d2 d3
      generalize (dP kd x zs).nv k = v at *
      generalize nk k v = nv at *
      generalize rAt kd k = ra at *
      generalize pSz kd k x = pz at *
      have k9 : (k : Int) ≤ 9 := by omega
      go_wp2_with fail
      refine (c40.out _).mono ?_
      rintro e w5 ⟨rfl, hb5⟩
      have M0 := TW.hide (blk_keep N0.out hb5)
      have MH := TW.hide (blk_keep NH.out hb5)
      have MB : Hid (Below B w w5) := below_row NB.out hb5 (by have := blk_lt N0.out; omega)
      clear hb5 N0 NH NB
      go_wp2_with fail
      refine (c56.out _ MB.out).mono ?_
      rintro e w6 ⟨rfl, hb6⟩
      have N0 := TW.hide (blk_keep M0.out hb6)
      have NH := TW.hide (blk_keep MH.out hb6)
      have NB : Hid (Below B w w6) := below_row MB.out hb6 (by have := blk_lt M0.out; omega)
      clear hb6 M0 MH MB
      go_wp2_with fail
      refine (c55.out _ NH.out).mono ?_
      rintro e w7 ⟨rfl, rfl⟩
      have m0 := blk_other (p := h) (o := ((k : Int) - 1).toNat) (u := nv) N0.out (by omega)
      have mh := blk_set (i := ((k : Int) - 1).toNat) (u := nv) NH.out
      rw [hset.out] at mh
      have mb := NB.out.setCell (p := ⟨h, ((k : Int) - 1).toNat, none⟩) (by simp; omega) nv
      clear N0 NH NB
      generalize w6.setCell ⟨h, ((k : Int) - 1).toNat, none⟩ nv = Y7 at *
      have M0 := TW.hide m0
      have MH := TW.hide mh
      have MB := TW.hide mb
      clear m0 mh mb
      go_wp2
      (first | (go_roundw; case' rel => skip) | (refine ⟨?_, ?measure⟩; (repeat apply Exists.intro); refine ⟨?rel, rfl⟩))
      case rel => exact ⟨k + 1, by omega, by omega, by go_num, M0.out, MH.out, MB.out⟩
      case measure => simp [intOf]; omega
    · obtain rfl : k = 10 := by omega
      have HA := TW.hide a1
      clear a1
      go_wp2
      refine HA.out _ _ ?_
      clear HA H40 H56 HBD
      rw [upP_ten] at NH
      have hcx : wr.cell? ⟨h, 6, none⟩ = some (.int .u32 (dP kd x zs).xof) := blk_cell NH.out rfl
      cases x
      · skip
        generalize hPP : (dP kd false zs) = PP at *
        have HPP := TW.hide hPP
        clear hPP
        generalize hEE : PP.ck kd s4 s4 = EE at *
        have HEE := TW.hide hEE
        clear hEE
        generalize PP.xof = xf at *
        refine wp_seq_k fun KK hK => ?_
        have HK := TW.hide hK
        clear hK
        go_wp2
        refine HK.out _ _ ?_
        clear HK KK hcx
        refine wp_seq_k fun KK hK => ?_
        have HK := TW.hide hK
        clear hK
        go_wp2_with fail
        refine (H48.out _).mono ?_
        rintro e w5 ⟨rfl, hb5⟩
        have M0 := TW.hide (blk_keep N0.out hb5)
        have MH := TW.hide (blk_keep NH.out hb5)
        have MB : Hid (Below B w w5) := below_row NB.out hb5 (by have := blk_lt N0.out; omega)
        clear hb5 N0 NH NB
        go_wp2_with fail
        refine (H49b.out _).mono ?_
        rintro e w6 ⟨rfl, hb6⟩
        have N0 := TW.hide (blk_keep M0.out hb6)
        have nh := blk_keep MH.out hb6
        have NB : Hid (Below B w w6) := below_row MB.out hb6 (by have := blk_lt M0.out; omega)
        have c9 : w6.cell? ⟨h, 9, none⟩ = some (.slice none 0 0) := blk_cell nh rfl
        have f9 : w6.frozen? ⟨h, 9, none⟩ = false := frozen_of_row w6 h 9 _ 26 nh
        have NH := TW.hide nh
        clear hb6 M0 MH MB nh
        go_wp2
        clear c9 f9
        have m0 := blk_other (p := h) (o := 9) (u := (.slice (some ⟨b, off + 2 * s4, none⟩) s4 (cap - 2 * s4))) N0.out (by omega)
        have mh : (w6.setCell ⟨h, 9, none⟩ (.slice (some ⟨b, off + 2 * s4, none⟩) s4 (cap - 2 * s4))).heap[h]? = some (.cells (pcP PP (.slice (some ⟨b, off + 2 * s4, none⟩) s4 (cap - 2 * s4)) (.slice none 0 0)) 26 (0, 0)) := blk_set (i := 9) (u := (.slice (some ⟨b, off + 2 * s4, none⟩) s4 (cap - 2 * s4))) NH.out
        have mb := NB.out.setCell (p := ⟨h, 9, none⟩) (by simp; omega) (.slice (some ⟨b, off + 2 * s4, none⟩) s4 (cap - 2 * s4))
        clear N0 NH NB
        generalize w6.setCell ⟨h, 9, none⟩ (.slice (some ⟨b, off + 2 * s4, none⟩) s4 (cap - 2 * s4)) = Y6 at *
        have M0 := TW.hide m0
        have MH := TW.hide mh
        have MB := TW.hide mb
        clear m0 mh mb
        refine HK.out _ _ ?_
        clear HK KK
        refine wp_seq_k fun KK hK => ?_
        have HK := TW.hide hK
        clear hK
        go_wp2_with fail
        refine (H48b.out _).mono ?_
        rintro e w7 ⟨rfl, hb7⟩
        have N0 := TW.hide (blk_keep M0.out hb7)
        have NH := TW.hide (blk_keep MH.out hb7)
        have NB : Hid (Below B w w7) := below_row MB.out hb7 (by have := blk_lt M0.out; omega)
        clear hb7 M0 MH MB
        go_wp2_with fail
        refine (H49c.out _).mono ?_
        rintro e w8 ⟨rfl, hb8⟩
        have M0 := TW.hide (blk_keep N0.out hb8)
        have mh := blk_keep NH.out hb8
        have MB : Hid (Below B w w8) := below_row NB.out hb8 (by have := blk_lt N0.out; omega)
        have c10 : w8.cell? ⟨h, 10, none⟩ = some (.slice none 0 0) := blk_cell mh rfl
        have f10 : w8.frozen? ⟨h, 10, none⟩ = false := frozen_of_row w8 h 10 _ 26 mh
        have MH := TW.hide mh
        clear hb8 N0 NH NB mh
        go_wp2
        clear c10 f10
        have n0 := blk_other (p := h) (o := 10) (u := (.slice (some ⟨b, off + 3 * s4, none⟩) s4 (cap - 3 * s4))) M0.out (by omega)
        have nh : (w8.setCell ⟨h, 10, none⟩ (.slice (some ⟨b, off + 3 * s4, none⟩) s4 (cap - 3 * s4))).heap[h]? = some (.cells (pcP PP (.slice (some ⟨b, off + 2 * s4, none⟩) s4 (cap - 2 * s4)) (.slice (some ⟨b, off + 3 * s4, none⟩) s4 (cap - 3 * s4))) 26 (0, 0)) := blk_set (i := 10) (u := (.slice (some ⟨b, off + 3 * s4, none⟩) s4 (cap - 3 * s4))) MH.out
        have nb := MB.out.setCell (p := ⟨h, 10, none⟩) (by simp; omega) (.slice (some ⟨b, off + 3 * s4, none⟩) s4 (cap - 3 * s4))
        clear M0 MH MB
        generalize w8.setCell ⟨h, 10, none⟩ (.slice (some ⟨b, off + 3 * s4, none⟩) s4 (cap - 3 * s4)) = Y8 at *
        have N0 := TW.hide n0
        have NH := TW.hide nh
        have NB := TW.hide nb
        clear n0 nh nb
        refine HK.out _ _ ?_
        clear HK KK
        go_wp2_with (refine wpList_load_row (by rfl) 26 _ (by rfl) (h) (by rfl) 26 (pcP PP (.slice (some ⟨b, off + 2 * s4, none⟩) s4 (cap - 2 * s4)) (.slice (some ⟨b, off + 3 * s4, none⟩) s4 (cap - 3 * s4))) (0, 0) _ NH.out Try.underlying26 rfl (info31 _ _ _) ?_)
        refine (H19.out _ NB.out).mono ?_
        rintro e w9 ⟨u, v, rfl, ou, ov, hb9⟩
        have M0 := TW.hide (blk_keep N0.out hb9)
        have hsz := blk_lt N0.out
        have MB : Hid (Below B w w9) := below_row NB.out hb9 (by omega)
        obtain ⟨ua, uc, rfl⟩ := own_form ou
        obtain ⟨va, vc, rfl⟩ := own_form ov
        have OU := TW.hide (own_mono' (own_setRow (cs := pcP (nP EE PP) (.slice ua (nS EE (saL kd zs)).length uc) (.slice va (nS EE (peL kd zs)).length vc)) ou hsz) (show B ≤ Y8.heap.size by omega))
        have OV := TW.hide (own_mono' (own_setRow (cs := pcP (nP EE PP) (.slice ua (nS EE (saL kd zs)).length uc) (.slice va (nS EE (peL kd zs)).length vc)) ov hsz) (show B ≤ Y8.heap.size by omega))
        clear hb9 N0 NH NB ou ov
        go_wp2_with (refine wpList_store_row (by rfl) 26 _ _ (by rfl) (B) (pcP (nP EE PP) (.slice ua (nS EE (saL kd zs)).length uc) (.slice va (nS EE (peL kd zs)).length vc)) (by rfl) (by rfl) 26 _ M0.out (info31 _ _ _) (pc_size _ _ _ _ _ _) (pc_one _ _ _ _ _ _ _) ?_)
        refine bodyPost_ret (v := .tuple #[.agg (pcP (nP EE PP) (.slice ua (nS EE (saL kd zs)).length uc) (.slice va (nS EE (peL kd zs)).length vc)), .int .i64 EE]) (results_row_tmp (P := Try.prog) Try.results8 _ _ B 26 _ (0, 0) _ _ (by rfl) (by rfl) (setRow_heap _ _ _ _ _ _ M0.out) Try.underlying26 rfl (info31 _ _ _)) rfl ?_
        have e1 := HEE.out
        have e2 := HPP.out
        subst e1 e2
        exact ⟨_, _, rfl, OU.out, OV.out, below_setRow MB.out (Nat.le_refl _)⟩
      · have e0 := HXX.out
        simp only [Bool.true_and] at e0
        generalize hPP : (dP kd true zs) = PP at *
        have HPP := TW.hide hPP
        clear hPP
        generalize hEE : PP.ck kd s4 s4 = EE at *
        have HEE := TW.hide hEE
        clear hEE
        generalize PP.xof = xf at *
        refine wp_seq_k fun KK hK => ?_
        have HK := TW.hide hK
        clear hK
        go_wp2
        refine HK.out _ _ ?_
        clear HK KK hcx
        refine wp_seq_k fun KK hK => ?_
        have HK := TW.hide hK
        clear hK
        go_wp2_with fail
        refine (H48.out _).mono ?_
        rintro e w5 ⟨rfl, hb5⟩
        have M0 := TW.hide (blk_keep N0.out hb5)
        have MH := TW.hide (blk_keep NH.out hb5)
        have MB : Hid (Below B w w5) := below_row NB.out hb5 (by have := blk_lt N0.out; omega)
        clear hb5 N0 NH NB
        go_wp2_with fail
        refine (H49b.out _).mono ?_
        rintro e w6 ⟨rfl, hb6⟩
        have N0 := TW.hide (blk_keep M0.out hb6)
        have nh := blk_keep MH.out hb6
        have NB : Hid (Below B w w6) := below_row MB.out hb6 (by have := blk_lt M0.out; omega)
        have c9 : w6.cell? ⟨h, 9, none⟩ = some (.slice none 0 0) := blk_cell nh rfl
        have f9 : w6.frozen? ⟨h, 9, none⟩ = false := frozen_of_row w6 h 9 _ 26 nh
        have NH := TW.hide nh
        clear hb6 M0 MH MB nh
        go_wp2
        clear c9 f9
        have m0 := blk_other (p := h) (o := 9) (u := (.slice (some ⟨b, off + 2 * s4, none⟩) s4 (cap - 2 * s4))) N0.out (by omega)
        have mh : (w6.setCell ⟨h, 9, none⟩ (.slice (some ⟨b, off + 2 * s4, none⟩) s4 (cap - 2 * s4))).heap[h]? = some (.cells (pcP PP (.slice (some ⟨b, off + 2 * s4, none⟩) s4 (cap - 2 * s4)) (.slice none 0 0)) 26 (0, 0)) := blk_set (i := 9) (u := (.slice (some ⟨b, off + 2 * s4, none⟩) s4 (cap - 2 * s4))) NH.out
        have mb := NB.out.setCell (p := ⟨h, 9, none⟩) (by simp; omega) (.slice (some ⟨b, off + 2 * s4, none⟩) s4 (cap - 2 * s4))
        clear N0 NH NB
        generalize w6.setCell ⟨h, 9, none⟩ (.slice (some ⟨b, off + 2 * s4, none⟩) s4 (cap - 2 * s4)) = Y6 at *
        have M0 := TW.hide m0
        have MH := TW.hide mh
        have MB := TW.hide mb
        clear m0 mh mb
        refine HK.out _ _ ?_
        clear HK KK
        refine wp_seq_k fun KK hK => ?_
        have HK := TW.hide hK
        clear hK
        go_wp2_with fail
        refine (H48b.out _).mono ?_
        rintro e w7 ⟨rfl, hb7⟩
        have N0 := TW.hide (blk_keep M0.out hb7)
        have NH := TW.hide (blk_keep MH.out hb7)
        have NB : Hid (Below B w w7) := below_row MB.out hb7 (by have := blk_lt M0.out; omega)
        clear hb7 M0 MH MB
        go_wp2_with fail
        refine (H49c.out _).mono ?_
        rintro e w8 ⟨rfl, hb8⟩
        have M0 := TW.hide (blk_keep N0.out hb8)
        have mh := blk_keep NH.out hb8
        have MB : Hid (Below B w w8) := below_row NB.out hb8 (by have := blk_lt N0.out; omega)
        have c10 : w8.cell? ⟨h, 10, none⟩ = some (.slice none 0 0) := blk_cell mh rfl
        have f10 : w8.frozen? ⟨h, 10, none⟩ = false := frozen_of_row w8 h 10 _ 26 mh
        have MH := TW.hide mh
        clear hb8 N0 NH NB mh
        go_wp2
        clear c10 f10
        have n0 := blk_other (p := h) (o := 10) (u := (.slice (some ⟨b, off + 3 * s4, none⟩) s4 (cap - 3 * s4))) M0.out (by omega)
        have nh : (w8.setCell ⟨h, 10, none⟩ (.slice (some ⟨b, off + 3 * s4, none⟩) s4 (cap - 3 * s4))).heap[h]? = some (.cells (pcP PP (.slice (some ⟨b, off + 2 * s4, none⟩) s4 (cap - 2 * s4)) (.slice (some ⟨b, off + 3 * s4, none⟩) s4 (cap - 3 * s4))) 26 (0, 0)) := blk_set (i := 10) (u := (.slice (some ⟨b, off + 3 * s4, none⟩) s4 (cap - 3 * s4))) MH.out
        have nb := MB.out.setCell (p := ⟨h, 10, none⟩) (by simp; omega) (.slice (some ⟨b, off + 3 * s4, none⟩) s4 (cap - 3 * s4))
        clear M0 MH MB
        generalize w8.setCell ⟨h, 10, none⟩ (.slice (some ⟨b, off + 3 * s4, none⟩) s4 (cap - 3 * s4)) = Y8 at *
        have N0 := TW.hide n0
        have NH := TW.hide nh
        have NB := TW.hide nb
        clear n0 nh nb
        refine HK.out _ _ ?_
        clear HK KK
        go_wp2_with (refine wpList_load_row (by rfl) 26 _ (by rfl) (h) (by rfl) 26 (pcP PP (.slice (some ⟨b, off + 2 * s4, none⟩) s4 (cap - 2 * s4)) (.slice (some ⟨b, off + 3 * s4, none⟩) s4 (cap - 3 * s4))) (0, 0) _ NH.out Try.underlying26 rfl (info31 _ _ _) ?_)
        refine (H19.out _ NB.out).mono ?_
        rintro e w9 ⟨u, v, rfl, ou, ov, hb9⟩
        have M0 := TW.hide (blk_keep N0.out hb9)
        have hsz := blk_lt N0.out
        have MB : Hid (Below B w w9) := below_row NB.out hb9 (by omega)
        obtain ⟨ua, uc, rfl⟩ := own_form ou
        obtain ⟨va, vc, rfl⟩ := own_form ov
        have OU := TW.hide (own_mono' (own_setRow (cs := pcP (nP EE PP) (.slice ua (nS EE (saL kd zs)).length uc) (.slice va (nS EE (peL kd zs)).length vc)) ou hsz) (show B ≤ Y8.heap.size by omega))
        have OV := TW.hide (own_mono' (own_setRow (cs := pcP (nP EE PP) (.slice ua (nS EE (saL kd zs)).length uc) (.slice va (nS EE (peL kd zs)).length vc)) ov hsz) (show B ≤ Y8.heap.size by omega))
        clear hb9 N0 NH NB ou ov
        go_wp2_with (refine wpList_store_row (by rfl) 26 _ _ (by rfl) (B) (pcP (nP EE PP) (.slice ua (nS EE (saL kd zs)).length uc) (.slice va (nS EE (peL kd zs)).length vc)) (by rfl) (by rfl) 26 _ M0.out (info31 _ _ _) (pc_size _ _ _ _ _ _) (pc_one _ _ _ _ _ _ _) ?_)
        refine bodyPost_ret (v := .tuple #[.agg (pcP (nP EE PP) (.slice ua (nS EE (saL kd zs)).length uc) (.slice va (nS EE (peL kd zs)).length vc)), .int .i64 EE]) (results_row_tmp (P := Try.prog) Try.results8 _ _ B 26 _ (0, 0) _ _ (by rfl) (by rfl) (setRow_heap _ _ _ _ _ _ M0.out) Try.underlying26 rfl (info31 _ _ _)) rfl ?_
        have e1 := HEE.out
        have e2 := HPP.out
        subst e1 e2
        exact ⟨_, _, rfl, OU.out, OV.out, below_setRow MB.out (Nat.le_refl _)⟩
end LW
end Go.Proofs.Ytomdplcmbcjkfaa
