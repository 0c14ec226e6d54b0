/-
  What the call Decode (the document) gives, for every block in either form.
-/
import Derived.Test.YtomdplcmbcjkfaaDec
namespace Go.Proofs.Ytomdplcmbcjkfaa
open Go.RowKit
set_option linter.unusedVariables false
set_option linter.unusedSimpArgs false
namespace LW
open Words
attribute [local go_sem ↓] Go.wp_at_zero Go.wp_at_succ
theorem info28 : (Try.prog.info? 23).map (fun i => (i.zero, i.size, i.bytes)) = some (some (.int .u64 0), 1, 8) := by kernel_rfl
/-- The cells of a row of words. -/
def us (l : List Int) : List Value := l.map (Value.int .u64)
theorem us_append (a b : List Int) : us (a ++ b) = us a ++ us b := by simp [us]
theorem us_get (l : List Int) (i : Nat) (h : i < l.length) : (us l)[i]? = some (.int .u64 (l.getD i 0)) := by
  simp [us, List.getD_eq_getElem?_getD, List.getElem?_eq_getElem h]
theorem us_own {w : World} {B : Nat} {v : Value} {l : List Int} (h : w.ownsRow B 23 1 v l.length (us l)) (h0 : 0 < l.length) : ∃ g cap, v = .slice (some ⟨g, 0, none⟩) l.length cap ∧ B ≤ g ∧ g < w.heap.size ∧ (∀ i, w.frozen? ⟨g, i, none⟩ = false) ∧ ∀ i, i < l.length → w.cell? ⟨g, i, none⟩ = some (.int .u64 (l.getD i 0)) := by
  rcases h.2 with ⟨rfl, hz⟩ | ⟨g, cap, cur, rfl, hg, hh, hn, hm, hc, ht⟩
  · omega
  · refine ⟨g, cap, rfl, hg, (Array.getElem?_eq_some_iff.1 hh).1, fun i => frozen_of_row w g i cur 23 hh, fun i hi => ?_⟩
    rw [h.cellAt i (by omega), us_get l i hi]
/-- How many bytes the document reads of a field. -/
def rN (kd : Int) (x : Bool) (f : Int) : Int := if f = 6 ∧ x = true then 4 else rSz kd f
theorem rFits (kd f : Int) (x : Bool) (hk : kd = 1 ∨ kd = 2) (h1 : 1 ≤ f) (h9 : f ≤ 9) : rAt kd f = ((rAt kd f).toNat : Int) ∧ rN kd x f = ((rN kd x f).toNat : Int) ∧ 1 ≤ (rN kd x f).toNat ∧ (rN kd x f).toNat ≤ 8 ∧ (((rAt kd f).toNat + (rN kd x f).toNat : Nat) : Int) ≤ mo kd := by
  have hf : f = 1 ∨ f = 2 ∨ f = 3 ∨ f = 4 ∨ f = 5 ∨ f = 6 ∨ f = 7 ∨ f = 8 ∨ f = 9 := by omega
  rcases hk with rfl | rfl <;> rcases hf with rfl | rfl | rfl | rfl | rfl | rfl | rfl | rfl | rfl <;> cases x <;> decide
/-- The number that the document reads. -/
def rV (kd : Int) (x : Bool) (zs : List Int) (f : Int) : Int := le ((zs.drop (rAt kd f).toNat).take (rN kd x f).toNat)
/-- The numbers that it reads, a nought ahead of them. -/
def vL (kd : Int) (x : Bool) (zs : List Int) : List Int := [0, rV kd x zs 1, rV kd x zs 2, rV kd x zs 3, rV kd x zs 4, rV kd x zs 5, rV kd x zs 6, rV kd x zs 7, rV kd x zs 8, rV kd x zs 9]
theorem vL_get (kd : Int) (x : Bool) (zs : List Int) (k : Nat) (h1 : 1 ≤ k) (h9 : k ≤ 9) : (vL kd x zs).getD k 0 = rV kd x zs k := by
  have hf : k = 1 ∨ k = 2 ∨ k = 3 ∨ k = 4 ∨ k = 5 ∨ k = 6 ∨ k = 7 ∨ k = 8 ∨ k = 9 := by omega
  rcases hf with rfl | rfl | rfl | rfl | rfl | rfl | rfl | rfl | rfl <;> rfl
theorem rV_fV (kd : Int) (x : Bool) (zs : List Int) (f : Int) (h : f ≠ 7 ∨ x = true) : rV kd x zs f = fV kd x zs f := by
  unfold rV fV rN pSz
  have h2 : ¬ (f = 7 ∧ x = false) := by rcases h with h | h <;> simp [h]
  rw [if_neg h2]
theorem fV7_false (kd : Int) (zs : List Int) : fV kd false zs 7 = 0 := by
  simp [fV, pSz, le]
theorem rfield (kd : Int) (x : Bool) (f : Int) (a : Option Addr) (cap : Nat) (zs : List Int) (w : World) (hz : Byt zs) (hr : Row w a zs) (hm : zs.length ≤ maxLen) (hk : kd = 1 ∨ kd = 2) (hlen : (zs.length : Int) = mo kd) (h1 : 1 ≤ f) (h9 : f ≤ 9) :
    Calls Try.prog 38 #[.slice a zs.length cap, .int .i64 (rAt kd f), .int .i64 (rN kd x f)] w fun e w' => e = .returned (.int .u64 (rV kd x zs f)) ∧ w = w' := by
  obtain ⟨e1, e2, h8, h9', hl⟩ := rFits kd f x hk h1 h9
  unfold rV
  rw [e1, e2]
  simp only [Int.toNat_natCast]
  exact rread a cap zs _ _ w hz hr hm h8 h9' (by omega)
set_option maxRecDepth 100000 in
set_option maxHeartbeats 4000000 in
theorem rdecLen (kd : Int) (x : Bool) (a : Option Addr) (cap len : Nat) (w : World) (hE : (cl kd len != 0) = true) :
    Calls Try.prog 13 #[.int .i64 kd, .slice a len cap, .bool x] w fun e w' => e = .returned (.tuple #[.agg (pcP Pm.zero (.slice none 0 0) (.slice none 0 0)), .int .i64 (cl kd len)]) ∧ Below w.heap.size w w' := by
  have H57 := TW.hide (fun W => sized kd a len cap W)
  generalize cl kd len = E at *
  have hb := ((Below.refl w.heap.size w).alloc (Nat.le_refl _) (.cells (pcP Pm.zero (.slice none 0 0) (.slice none 0 0)) 26))
  have n0 := (heap_new w (.cells (pcP Pm.zero (.slice none 0 0) (.slice none 0 0)) 26))
  go_enter Try.func13, Try.ntmps13
  refine wp_seq_k fun K hK => ?_
  have HK := TW.hide hK
  clear hK
  go_wp2
  refine HK.out _ _ ?_
  clear HK K
  change Code.wp _ _ _ _ (w.alloc (.cells (pcP Pm.zero (.slice none 0 0) (.slice none 0 0)) 26))
  generalize hWW : w.alloc (.cells (pcP Pm.zero (.slice none 0 0) (.slice none 0 0)) 26) = W at hb n0 ⊢
  have hW : W.heap.size = w.heap.size + 1 := by rw [← hWW]; simp
  clear hWW
  generalize hB : w.heap.size = B at *
  have M0 := TW.hide n0
  have MB := TW.hide hb
  clear n0 hb hW
  go_wp2_with fail
  refine (H57.out _).mono ?_
  rintro e w1 ⟨rfl, rfl⟩
  go_wp2_with (first | (refine wpList_store_row (by rfl) 26 _ _ (by rfl) (B) (pcP Pm.zero (.slice none 0 0) (.slice none 0 0)) (by rfl) (by rfl) 26 _ M0.out (info31 _ _ _) (pc_size _ _ _ _ _ _) (pc_one _ _ _ _ _ _ _) ?_))
  refine bodyPost_ret (v := .tuple #[.agg (pcP Pm.zero (.slice none 0 0) (.slice none 0 0)), .int .i64 E]) (results_row_tmp (P := Try.prog) Try.results13 _ _ B 26 _ (0, 0) _ _ (by rfl) (by rfl) (setRow_heap _ _ _ _ _ _ M0.out) Try.underlying26 rfl (info31 _ _ _)) rfl ?_
  exact ⟨rfl, below_setRow MB.out (Nat.le_refl _)⟩
set_option maxRecDepth 100000 in
set_option maxHeartbeats 4000000 in
theorem rdecIdle (x : Bool) (b off cap : Nat) (zs : List Int) (w : World) (hcl : cl 1 zs.length = 0) (hz : Byt zs) (hr : Row w (some ⟨b, off, none⟩) zs) (hc : zs.length ≤ cap) (m : Nat) (hm : m < 14) (hnz : ¬ zs.getD (18 + m) 0 = 0) :
    Calls Try.prog 13 #[.int .i64 1, (.slice (some ⟨b, off, none⟩) zs.length cap), .bool x] w fun e w' => e = .returned (.tuple #[.agg (pcP Pm.zero (.slice none 0 0) (.slice none 0 0)), .int .i64 4]) ∧ Below w.heap.size w w' := by
  have H57 : Hid (∀ W : World, Calls Try.prog 37 #[.int .i64 1, (.slice (some ⟨b, off, none⟩) zs.length cap)] W fun e w' => e = .returned (.int .i64 0) ∧ W = w') := fun W => by
    have := sized 1 (some ⟨b, off, none⟩) zs.length cap W
    rwa [hcl] at this
  obtain ⟨_, hlen⟩ := cl_zero hcl
  have hb := ((Below.refl w.heap.size w).alloc (Nat.le_refl _) (.cells (pcP Pm.zero (.slice none 0 0) (.slice none 0 0)) 26))
  have n0 := (heap_new w (.cells (pcP Pm.zero (.slice none 0 0) (.slice none 0 0)) 26))
  have hl64 : zs.length = 64 := by have : mo 1 = 64 := rfl; omega
  have hcell : ∀ i, i < 64 → (w.alloc (.cells (pcP Pm.zero (.slice none 0 0) (.slice none 0 0)) 26)).cell? ⟨b, off + i, none⟩ = some (.int .u8 (zs.getD i 0)) := fun i hi => by
    rcases hr.below hb with h | ⟨b', off', e, h⟩
    · subst h; simp at hl64
    · cases e; exact h i (by omega)
  rw [hl64] at H57 ⊢
  clear hcl hz hr hc hlen hl64
  go_enter Try.func13, Try.ntmps13
  refine wp_seq_k fun K hK => ?_
  have HK := TW.hide hK
  clear hK
  go_wp2
  refine HK.out _ _ ?_
  clear HK K
  change Code.wp _ _ _ _ (w.alloc (.cells (pcP Pm.zero (.slice none 0 0) (.slice none 0 0)) 26))
  generalize w.alloc (.cells (pcP Pm.zero (.slice none 0 0) (.slice none 0 0)) 26) = W at hb n0 hcell ⊢
  generalize hB : w.heap.size = B at *
  have M0 := TW.hide n0
  have MB := TW.hide hb
  have HC := TW.hide hcell
  clear n0 hb hcell
  have h00 : ((0 : Int) != 0) = false := rfl
  go_wp2_with fail
  refine (H57.out _).mono ?_
  rintro e w1 ⟨rfl, rfl⟩
  go_wp2
  go_loop [9] (fun i => ∃ j : Nat, j ≤ m ∧ i = .int .i64 ((18 + j : Nat) : Int)) (fun i => 100 - (intOf i).toNat)
  case atStart => exact ⟨0, Nat.zero_le _, rfl⟩
  case round =>
    obtain ⟨j, hj, rfl⟩ := hrel
    have hc := HC.out (18 + j) (by omega)
    have hq : ((18 + j : Nat) : Int) < 32 := by omega
    have hq0 : (0 : Int) ≤ ((18 + j : Nat) : Int) := by omega
    have hq1 : ((18 + j : Nat) : Int) < 64 := by omega
    by_cases hzj : zs.getD (18 + j) 0 = 0
    · have hjm : j < m := by
        rcases Nat.lt_or_ge j m with h | h
        · exact h
        · obtain rfl : j = m := by omega
          exact absurd hzj hnz
      rw [hzj] at hc
      have hnn : ((0 : Int) != 0) = false := rfl
      generalize hjj : 18 + j = jj at *
      go_wp2
      go_round
      case rel => exact ⟨j + 1, by omega, by rw [← hjj]; go_num⟩
      case measure => simp [intOf]; omega
    · have hnn : (zs.getD (18 + j) 0 != 0) = true := by simpa using hzj
      generalize zs.getD (18 + j) 0 = z at *
      generalize 18 + j = jj at *
      go_wp2_with (first | (refine wpList_store_row (by rfl) 26 _ _ (by rfl) (B) (pcP Pm.zero (.slice none 0 0) (.slice none 0 0)) (by rfl) (by rfl) 26 _ M0.out (info31 _ _ _) (pc_size _ _ _ _ _ _) (pc_one _ _ _ _ _ _ _) ?_))
      refine bodyPost_ret (v := .tuple #[.agg (pcP Pm.zero (.slice none 0 0) (.slice none 0 0)), .int .i64 4]) (results_row_tmp (P := Try.prog) Try.results13 _ _ B 26 _ (0, 0) _ _ (by rfl) (by rfl) (setRow_heap _ _ _ _ _ _ M0.out) Try.underlying26 rfl (info31 _ _ _)) rfl ?_
      exact ⟨rfl, below_setRow MB.out (Nat.le_refl _)⟩
theorem one_own (W : World) : (W.alloc (.cells #[.int .u64 0] 23)).ownsRow W.heap.size 23 1 (.slice (some ⟨W.heap.size, 0, none⟩) 1 1) 1 [.int .u64 0] := by
  refine ⟨rfl, .inr ⟨W.heap.size, 1, #[.int .u64 0], rfl, Nat.le_refl _, ?_, Nat.le_refl _, by simp [maxLen], rfl, rfl⟩⟩
  show (W.heap.push _)[W.heap.size]? = _
  simp
theorem one_new28 (w : World) (z : Value) : ∀ (j : Nat) (u : Value), [z][j]? = some u → (w.alloc (.cells #[z] 23)).cell? ((⟨w.heap.size, 0, none⟩ : Addr).add j) = some u := by
  intro j u hj
  match j, hj with
  | 0, hj => simp at hj; subst hj; simp [Addr.add]
theorem own_block28 {w : World} {B n : Nat} {v : Value} {xs : List Value} (h : w.ownsRow B 23 1 v n xs) : ∀ k, v.ownBlock = some k → B ≤ k := by
  intro k hk
  rcases h.2 with ⟨rfl, _⟩ | ⟨g, cap, cur, rfl, hg, _⟩
  · simp [Value.ownBlock] at hk
  · simp [Value.ownBlock] at hk; omega
theorem blk_lt_cell {w : World} {b o : Nat} {v : Value} (h : w.cell? ⟨b, o, none⟩ = some v) : b < w.heap.size := lt_of_cell h
theorem cell_setRow_other {Z : World} {g h i : Nat} {cs : Array Value} (hne : g ≠ h) : (Z.setRow h cs).cell? ⟨g, i, none⟩ = Z.cell? ⟨g, i, none⟩ := by
  simp only [World.cell?, setRow_other Z h g cs hne]
theorem cell_setCell_same {Z : World} {g i : Nat} {u v : Value} (h : Z.cell? ⟨g, i, none⟩ = some v) : (Z.setCell ⟨g, i, none⟩ u).cell? ⟨g, i, none⟩ = some u := by
  exact World.cell?_setCell_same _ _ _ h
theorem cell_setCell_off {Z : World} {g i j : Nat} {u : Value} (h : i ≠ j) : (Z.setCell ⟨g, j, none⟩ u).cell? ⟨g, i, none⟩ = Z.cell? ⟨g, i, none⟩ := by
  exact World.cell?_setCell_other _ _ _ _ (by intro e; injection e with e1 e2; exact h e2.symm)
set_option maxRecDepth 100000 in
set_option maxHeartbeats 8000000 in
theorem rdecXof1 (x : Bool) (b off cap : Nat) (zs : List Int) (w : World) (hcl : cl 1 zs.length = 0) (hz : Byt zs) (hr : Row w (some ⟨b, off, none⟩) zs) (hc : zs.length ≤ cap) (hid : ∀ m, m < 14 → zs.getD (18 + m) 0 = 0) (hxx : x = true ∧ ((dP 1 x zs).xof == 0) = true) :
    Calls Try.prog 13 #[.int .i64 1, (.slice (some ⟨b, off, none⟩) zs.length cap), .bool x] w fun e w' => e = .returned (.tuple #[.agg (pcP Pm.zero (.slice none 0 0) (.slice none 0 0)), .int .i64 24]) ∧ Below w.heap.size w w' := by
  obtain ⟨i0, hi, hz0, hz1, hz2⟩ := info_parts info28
  have H57 : Hid (∀ W : World, Calls Try.prog 37 #[.int .i64 1, (.slice (some ⟨b, off, none⟩) zs.length cap)] W fun e w' => e = .returned (.int .i64 0) ∧ W = w') := fun W => by
    have := sized 1 (some ⟨b, off, none⟩) zs.length cap W
    rwa [hcl] at this
  obtain ⟨_, hlen⟩ := cl_zero hcl
  have hb := ((Below.refl w.heap.size w).alloc (Nat.le_refl _) (.cells (pcP Pm.zero (.slice none 0 0) (.slice none 0 0)) 26))
  have n0 := (heap_new w (.cells (pcP Pm.zero (.slice none 0 0) (.slice none 0 0)) 26))
  have hl64 : zs.length = 64 := by have : mo 1 = 64 := rfl; omega
  have hk : (1 : Int) = 1 ∨ (1 : Int) = 2 := by decide
  have hcell : ∀ i, i < 64 → (w.alloc (.cells (pcP Pm.zero (.slice none 0 0) (.slice none 0 0)) 26)).cell? ⟨b, off + i, none⟩ = some (.int .u8 (zs.getD i 0)) := fun i hi => by
    rcases hr.below hb with h | ⟨b', off', e, h⟩
    · subst h; simp at hl64
    · cases e; exact h i (by omega)
  have H50 : Hid (∀ (k : Nat) (Y : World), 1 ≤ k → k ≤ 9 → Calls Try.prog 34 #[.int .i64 1, .int .i64 k] Y fun e w' => e = .returned (.tuple #[.int .i64 (rAt 1 k), .int .i64 (rSz 1 k)]) ∧ Y = w') := fun k Y h1 h9 => by
    have := place 1 k Y hk
    rw [if_neg (by omega), if_neg (by omega)] at this
    exact this
  have H53 : Hid (∀ (k : Nat) (Y : World), 1 ≤ k → k ≤ 9 → Below (w.alloc (.cells (pcP Pm.zero (.slice none 0 0) (.slice none 0 0)) 26)).heap.size (w.alloc (.cells (pcP Pm.zero (.slice none 0 0) (.slice none 0 0)) 26)) Y → Calls Try.prog 38 #[(.slice (some ⟨b, off, none⟩) zs.length cap), .int .i64 (rAt 1 k), .int .i64 (rN 1 x k)] Y fun e w' => e = .returned (.int .u64 (rV 1 x zs k)) ∧ Y = w') := fun k Y h1 h9 hbY =>
    rfield 1 x k (some ⟨b, off, none⟩) cap zs Y hz ((hr.below hb).below hbY) (by rw [hl64]; simp [maxLen]) hk hlen (by omega) (by omega)
  have HK12 := TW.hide hk
  have HRB := TW.hide (fun Y (hbY : Below w.heap.size w Y) => hr.below hbY)
  have HZ := TW.hide hz
  have HCAP := TW.hide hc
  have HL := TW.hide hl64
  have HXX := TW.hide hxx
  rw [hl64] at H57 H53 ⊢
  clear hcl hz hr hc hlen hl64 hxx hk
  go_enter Try.func13, Try.ntmps13
  refine wp_seq_k fun K hK => ?_
  have HK := TW.hide hK
  clear hK
  go_wp2
  refine HK.out _ _ ?_
  clear HK K
  change Code.wp _ _ _ _ (w.alloc (.cells (pcP Pm.zero (.slice none 0 0) (.slice none 0 0)) 26))
  generalize w.alloc (.cells (pcP Pm.zero (.slice none 0 0) (.slice none 0 0)) 26) = W at hb n0 hcell H53 ⊢
  generalize hB : w.heap.size = B at *
  have M0 := TW.hide n0
  have MB := TW.hide hb
  have HCE := TW.hide hcell
  clear n0 hb hcell
  have h00 : ((0 : Int) != 0) = false := rfl
  go_wp2_with fail
  refine (H57.out _).mono ?_
  rintro e w1 ⟨rfl, rfl⟩
  go_wp2
  have HID := TW.hide hid
  clear hid
  go_loop [9] (fun i => ∃ j : Nat, j ≤ 14 ∧ i = .int .i64 ((18 + j : Nat) : Int)) (fun i => 100 - (intOf i).toNat)
  case atStart => exact ⟨0, Nat.zero_le _, rfl⟩
  case round =>
    rename_i Q0 K0 a0 hw0
    obtain ⟨j, hj, rfl⟩ := hrel
    by_cases hj14 : j < 14
    · have hc := HCE.out (18 + j) (by omega)
      rw [HID.out j hj14] at hc
      have hq : ((18 + j : Nat) : Int) < 32 := by omega
      have hq0 : (0 : Int) ≤ ((18 + j : Nat) : Int) := by omega
      have hq1 : ((18 + j : Nat) : Int) < 64 := by omega
      have hnn : ((0 : Int) != 0) = false := rfl
      generalize hjj : 18 + j = jj at *
      go_wp2
      go_round
      case rel => exact ⟨j + 1, by omega, by rw [← hjj]; go_num⟩
      case measure => simp [intOf]; omega
    · obtain rfl : j = 14 := by omega
      have HA := TW.hide a0
      clear a0 HID HCE
      go_wp2
      refine HA.out _ _ ?_
      clear HA
      refine wp_seq_k fun KK hK => ?_
      have HK := TW.hide hK
      clear hK
      go_wp2
      refine HK.out _ _ ?_
      clear HK KK
      have ow0 : (W.alloc (.cells #[.int .u64 0] 23)).ownsRow W.heap.size 23 1 (.slice (some ⟨W.heap.size, 0, none⟩) 1 1) 1 (us ((vL 1 x zs).take 1)) := one_own W
      have bw0 : Below W.heap.size W (W.alloc (.cells #[.int .u64 0] 23)) := (Below.refl _ _).alloc (Nat.le_refl _) _
      generalize Value.slice (some ⟨W.heap.size, 0, none⟩) 1 1 = v0 at *
      generalize W.alloc (.cells #[.int .u64 0] 23) = Y0 at *
      have OW := TW.hide ow0
      have BW := TW.hide bw0
      clear ow0 bw0
      go_wp2
      go_loopw [10, 11] (fun o i wr => ∃ k : Nat, 1 ≤ k ∧ k ≤ 10 ∧ i = .int .i64 k ∧ wr.ownsRow W.heap.size 23 1 o k (us ((vL 1 x zs).take k)) ∧ Below W.heap.size W wr) (fun _ i _ => 10 - (intOf i).toNat)
      case atStart => exact ⟨1, Nat.le_refl _, by omega, rfl, OW.out, BW.out⟩
      case round =>
        rename_i Q1 K1 a1
        obtain ⟨k, hk1, hk10, rfl, hown, hbel⟩ := hrel
        clear OW BW
        by_cases hlt : k < 10
        · have hsn := take_snoc (vL 1 x zs) k (by simp [vL]; omega)
          rw [vL_get 1 x zs k hk1 (by omega)] at hsn
          have c50 := TW.hide (fun Y => H50.out k Y hk1 (by omega))
          have c53 := TW.hide (fun Y hb => H53.out k Y hk1 (by omega) hb)
          have hrn : rN 1 x k = if (k : Int) = 6 ∧ x = true then 4 else rSz 1 k := rfl
          generalize rV 1 x zs k = vk at *
          generalize rAt 1 k = ra at *
          have HSN := TW.hide hsn
          have HB := TW.hide hbel
          clear hsn hbel
          have k9 : (k : Int) ≤ 9 := by omega
          by_cases h6 : k = 6
          · subst h6
            cases x
            · rw [if_neg (by simp)] at hrn
              rw [hrn] at c53
              generalize rSz 1 (6 : Nat) = rs at *
              have h66 : (((6 : Nat) : Int) == 6) = true := rfl
              go_wp2_with fail
              refine (c50.out _).mono ?_
              rintro e w1 ⟨rfl, rfl⟩
              go_wp2_with fail
              refine (c53.out _ HB.out).mono ?_
              rintro e w1 ⟨rfl, rfl⟩
              go_wp2_with (at_builtin; refine wpList_append_own _ rfl _ _ 69 rfl W.heap.size 23 i0 (.int .u64 0) 1 8 Try.underlying69 hi hz0 hz1 hz2 rfl (by decide) _ _ _ rfl (hown.alloc _) ⟨wr.heap.size, 0, none⟩ 1 1 [.int .u64 vk] rfl rfl ?c1 ?c2 ?c3 ?c4 ?c5 ?_)
              case c1 => exact one_new28 _ _
              case c2 => intro u hu; simp at hu; subst hu; rfl
              case c3 => unfold maxLen; omega
              case c4 => omega
              case c5 => have := HB.out.size; simp; omega
              intro v' w2 hown' hgrow' _
              have hbel2 : Below W.heap.size W w2 := (HB.out.alloc HB.out.size _).grown hgrow' (by have := HB.out.size; simp; omega) (own_block28 hown)
              have K1' := TW.hide hown'
              have K2' := TW.hide hbel2
              clear hown hown' hgrow' hbel2
              go_wp2
              (first | (go_roundw; case' rel => skip) | (refine ⟨?_, ?measure⟩; (repeat apply Exists.intro); refine ⟨?rel, rfl⟩))
              case rel => exact ⟨6 + 1, by omega, by omega, by go_num, by rw [HSN.out, us_append]; exact K1'.out, K2'.out⟩
              case measure => simp [intOf]; try omega
            · rw [if_pos (by simp)] at hrn
              rw [hrn] at c53
              generalize rSz 1 (6 : Nat) = rs at *
              have h66 : (((6 : Nat) : Int) == 6) = true := rfl
              go_wp2_with fail
              refine (c50.out _).mono ?_
              rintro e w1 ⟨rfl, rfl⟩
              go_wp2_with fail
              refine (c53.out _ HB.out).mono ?_
              rintro e w1 ⟨rfl, rfl⟩
              go_wp2_with (at_builtin; refine wpList_append_own _ rfl _ _ 69 rfl W.heap.size 23 i0 (.int .u64 0) 1 8 Try.underlying69 hi hz0 hz1 hz2 rfl (by decide) _ _ _ rfl (hown.alloc _) ⟨wr.heap.size, 0, none⟩ 1 1 [.int .u64 vk] rfl rfl ?c1 ?c2 ?c3 ?c4 ?c5 ?_)
              case c1 => exact one_new28 _ _
              case c2 => intro u hu; simp at hu; subst hu; rfl
              case c3 => unfold maxLen; omega
              case c4 => omega
              case c5 => have := HB.out.size; simp; omega
              intro v' w2 hown' hgrow' _
              have hbel2 : Below W.heap.size W w2 := (HB.out.alloc HB.out.size _).grown hgrow' (by have := HB.out.size; simp; omega) (own_block28 hown)
              have K1' := TW.hide hown'
              have K2' := TW.hide hbel2
              clear hown hown' hgrow' hbel2
              go_wp2
              (first | (go_roundw; case' rel => skip) | (refine ⟨?_, ?measure⟩; (repeat apply Exists.intro); refine ⟨?rel, rfl⟩))
              case rel => exact ⟨6 + 1, by omega, by omega, by go_num, by rw [HSN.out, us_append]; exact K1'.out, K2'.out⟩
              case measure => simp [intOf]; try omega
          · rw [if_neg (by omega)] at hrn
            rw [hrn] at c53
            generalize rSz 1 k = rs at *
            have h66 : ((k : Int) == 6) = false := by simp; omega
            go_wp2_with fail
            refine (c50.out _).mono ?_
            rintro e w1 ⟨rfl, rfl⟩
            go_wp2_with fail
            refine (c53.out _ HB.out).mono ?_
            rintro e w1 ⟨rfl, rfl⟩
            go_wp2_with (at_builtin; refine wpList_append_own _ rfl _ _ 69 rfl W.heap.size 23 i0 (.int .u64 0) 1 8 Try.underlying69 hi hz0 hz1 hz2 rfl (by decide) _ _ _ rfl (hown.alloc _) ⟨wr.heap.size, 0, none⟩ 1 1 [.int .u64 vk] rfl rfl ?c1 ?c2 ?c3 ?c4 ?c5 ?_)
            case c1 => exact one_new28 _ _
            case c2 => intro u hu; simp at hu; subst hu; rfl
            case c3 => unfold maxLen; omega
            case c4 => omega
            case c5 => have := HB.out.size; simp; omega
            intro v' w2 hown' hgrow' _
            have hbel2 : Below W.heap.size W w2 := (HB.out.alloc HB.out.size _).grown hgrow' (by have := HB.out.size; simp; omega) (own_block28 hown)
            have K1' := TW.hide hown'
            have K2' := TW.hide hbel2
            clear hown hown' hgrow' hbel2
            go_wp2
            (first | (go_roundw; case' rel => skip) | (refine ⟨?_, ?measure⟩; (repeat apply Exists.intro); refine ⟨?rel, rfl⟩))
            case rel => exact ⟨k + 1, by omega, by omega, by go_num, by rw [HSN.out, us_append]; exact K1'.out, K2'.out⟩
            case measure => simp [intOf]; try omega
        · obtain rfl : k = 10 := by omega
          have HA := TW.hide a1
          clear a1
          have hV10 : (vL 1 x zs).take 10 = (vL 1 x zs) := rfl
          rw [hV10] at hown
          obtain ⟨g, vc, rfl, hg, hgl, hfz, hcells⟩ := us_own hown (by simp [vL])
          have n0 : wr.heap[B]? = some (.cells (pcP Pm.zero (.slice none 0 0) (.slice none 0 0)) 26 (0, 0)) := by rw [hbel.block B (blk_lt M0.out)]; exact M0.out
          have hb : Below B w wr := MB.out.trans (hbel.mono (by have := blk_lt M0.out; omega))
          have hgB : B < g := by have := blk_lt M0.out; omega
          have N0 := TW.hide n0
          have NB := TW.hide hb
          have HC := TW.hide hcells
          clear n0 hb hown hbel hcells hV10
          rw [show (vL 1 x zs).length = 10 from rfl] at *
          go_wp2
          refine HA.out _ _ ?_
          clear HA H50 H53 M0 MB
          have f7 := hfz 7
          clear hfz
          have ex : x = true := HXX.out.1
          subst ex
          have c7 := HC.out 7 (by decide)
          rw [vL_get 1 true zs 7 (by decide) (by decide), rV_fV _ _ _ _ (.inr rfl), show fV 1 true zs ((7 : Nat) : Int) = 0 from by simpa [dP] using HXX.out.2] at c7
          have e00 : ((0 : Int) == 0) = true := rfl
          have M0 := N0
          have MB := NB
          clear N0 NB
          go_wp2_with (first | (refine wpList_store_row (by rfl) 26 _ _ (by rfl) (B) (pcP Pm.zero (.slice none 0 0) (.slice none 0 0)) (by rfl) (by rfl) 26 _ M0.out (info31 _ _ _) (pc_size _ _ _ _ _ _) (pc_one _ _ _ _ _ _ _) ?_))
          refine bodyPost_ret (v := .tuple #[.agg (pcP Pm.zero (.slice none 0 0) (.slice none 0 0)), .int .i64 24]) (results_row_tmp (P := Try.prog) Try.results13 _ _ B 26 _ (0, 0) _ _ (by rfl) (by rfl) (setRow_heap _ _ _ _ _ _ M0.out) Try.underlying26 rfl (info31 _ _ _)) rfl ?_
          exact ⟨rfl, below_setRow MB.out (Nat.le_refl _)⟩
set_option maxRecDepth 100000 in
set_option maxHeartbeats 8000000 in
theorem rdecOk1 (x : Bool) (b off cap : Nat) (zs : List Int) (w : World) (hcl : cl 1 zs.length = 0) (hz : Byt zs) (hr : Row w (some ⟨b, off, none⟩) zs) (hc : zs.length ≤ cap) (hid : ∀ m, m < 14 → zs.getD (18 + m) 0 = 0) (hxx : (x && ((dP 1 x zs).xof == 0)) = false) :
    Calls Try.prog 13 #[.int .i64 1, (.slice (some ⟨b, off, none⟩) zs.length cap), .bool x] w fun e w' => ∃ u v, e = .returned (.tuple #[.agg (pcP (nP ((dP 1 x zs).ck 1 (mo 1 / 4).toNat (mo 1 / 4).toNat) (dP 1 x zs)) u v), .int .i64 ((dP 1 x zs).ck 1 (mo 1 / 4).toNat (mo 1 / 4).toNat)]) ∧ w'.ownsRow w.heap.size 5 1 u (nS ((dP 1 x zs).ck 1 (mo 1 / 4).toNat (mo 1 / 4).toNat) (saL 1 zs)).length (vs (nS ((dP 1 x zs).ck 1 (mo 1 / 4).toNat (mo 1 / 4).toNat) (saL 1 zs))) ∧ w'.ownsRow w.heap.size 5 1 v (nS ((dP 1 x zs).ck 1 (mo 1 / 4).toNat (mo 1 / 4).toNat) (peL 1 zs)).length (vs (nS ((dP 1 x zs).ck 1 (mo 1 / 4).toNat (mo 1 / 4).toNat) (peL 1 zs))) ∧ Below w.heap.size w w' := by
  obtain ⟨i0, hi, hz0, hz1, hz2⟩ := info_parts info28
  have H57 : Hid (∀ W : World, Calls Try.prog 37 #[.int .i64 1, (.slice (some ⟨b, off, none⟩) zs.length cap)] W fun e w' => e = .returned (.int .i64 0) ∧ W = w') := fun W => by
    have := sized 1 (some ⟨b, off, none⟩) zs.length cap W
    rwa [hcl] at this
  obtain ⟨_, hlen⟩ := cl_zero hcl
  have hb := ((Below.refl w.heap.size w).alloc (Nat.le_refl _) (.cells (pcP Pm.zero (.slice none 0 0) (.slice none 0 0)) 26))
  have n0 := (heap_new w (.cells (pcP Pm.zero (.slice none 0 0) (.slice none 0 0)) 26))
  have hl64 : zs.length = 64 := by have : mo 1 = 64 := rfl; omega
  have hk : (1 : Int) = 1 ∨ (1 : Int) = 2 := by decide
  have hcell : ∀ i, i < 64 → (w.alloc (.cells (pcP Pm.zero (.slice none 0 0) (.slice none 0 0)) 26)).cell? ⟨b, off + i, none⟩ = some (.int .u8 (zs.getD i 0)) := fun i hi => by
    rcases hr.below hb with h | ⟨b', off', e, h⟩
    · subst h; simp at hl64
    · cases e; exact h i (by omega)
  have H50 : Hid (∀ (k : Nat) (Y : World), 1 ≤ k → k ≤ 9 → Calls Try.prog 34 #[.int .i64 1, .int .i64 k] Y fun e w' => e = .returned (.tuple #[.int .i64 (rAt 1 k), .int .i64 (rSz 1 k)]) ∧ Y = w') := fun k Y h1 h9 => by
    have := place 1 k Y hk
    rw [if_neg (by omega), if_neg (by omega)] at this
    exact this
  have H53 : Hid (∀ (k : Nat) (Y : World), 1 ≤ k → k ≤ 9 → Below (w.alloc (.cells (pcP Pm.zero (.slice none 0 0) (.slice none 0 0)) 26)).heap.size (w.alloc (.cells (pcP Pm.zero (.slice none 0 0) (.slice none 0 0)) 26)) Y → Calls Try.prog 38 #[(.slice (some ⟨b, off, none⟩) zs.length cap), .int .i64 (rAt 1 k), .int .i64 (rN 1 x k)] Y fun e w' => e = .returned (.int .u64 (rV 1 x zs k)) ∧ Y = w') := fun k Y h1 h9 hbY =>
    rfield 1 x k (some ⟨b, off, none⟩) cap zs Y hz ((hr.below hb).below hbY) (by rw [hl64]; simp [maxLen]) hk hlen (by omega) (by omega)
  have HK12 := TW.hide hk
  have HRB := TW.hide (fun Y (hbY : Below w.heap.size w Y) => hr.below hbY)
  have HZ := TW.hide hz
  have HCAP := TW.hide hc
  have HL := TW.hide hl64
  have HXX := TW.hide hxx
  rw [hl64] at H57 H53 ⊢
  clear hcl hz hr hc hlen hl64 hxx hk
  go_enter Try.func13, Try.ntmps13
  refine wp_seq_k fun K hK => ?_
  have HK := TW.hide hK
  clear hK
  go_wp2
  refine HK.out _ _ ?_
  clear HK K
  change Code.wp _ _ _ _ (w.alloc (.cells (pcP Pm.zero (.slice none 0 0) (.slice none 0 0)) 26))
  generalize w.alloc (.cells (pcP Pm.zero (.slice none 0 0) (.slice none 0 0)) 26) = W at hb n0 hcell H53 ⊢
  generalize hB : w.heap.size = B at *
  have M0 := TW.hide n0
  have MB := TW.hide hb
  have HCE := TW.hide hcell
  clear n0 hb hcell
  have h00 : ((0 : Int) != 0) = false := rfl
  go_wp2_with fail
  refine (H57.out _).mono ?_
  rintro e w1 ⟨rfl, rfl⟩
  go_wp2
  have HID := TW.hide hid
  clear hid
  go_loop [9] (fun i => ∃ j : Nat, j ≤ 14 ∧ i = .int .i64 ((18 + j : Nat) : Int)) (fun i => 100 - (intOf i).toNat)
  case atStart => exact ⟨0, Nat.zero_le _, rfl⟩
  case round =>
    rename_i Q0 K0 a0 hw0
    obtain ⟨j, hj, rfl⟩ := hrel
    by_cases hj14 : j < 14
    · have hc := HCE.out (18 + j) (by omega)
      rw [HID.out j hj14] at hc
      have hq : ((18 + j : Nat) : Int) < 32 := by omega
      have hq0 : (0 : Int) ≤ ((18 + j : Nat) : Int) := by omega
      have hq1 : ((18 + j : Nat) : Int) < 64 := by omega
      have hnn : ((0 : Int) != 0) = false := rfl
      generalize hjj : 18 + j = jj at *
      go_wp2
      go_round
      case rel => exact ⟨j + 1, by omega, by rw [← hjj]; go_num⟩
      case measure => simp [intOf]; omega
    · obtain rfl : j = 14 := by omega
      have HA := TW.hide a0
      clear a0 HID HCE
      go_wp2
      refine HA.out _ _ ?_
      clear HA
      refine wp_seq_k fun KK hK => ?_
      have HK := TW.hide hK
      clear hK
      go_wp2
      refine HK.out _ _ ?_
      clear HK KK
      have ow0 : (W.alloc (.cells #[.int .u64 0] 23)).ownsRow W.heap.size 23 1 (.slice (some ⟨W.heap.size, 0, none⟩) 1 1) 1 (us ((vL 1 x zs).take 1)) := one_own W
      have bw0 : Below W.heap.size W (W.alloc (.cells #[.int .u64 0] 23)) := (Below.refl _ _).alloc (Nat.le_refl _) _
      generalize Value.slice (some ⟨W.heap.size, 0, none⟩) 1 1 = v0 at *
      generalize W.alloc (.cells #[.int .u64 0] 23) = Y0 at *
      have OW := TW.hide ow0
      have BW := TW.hide bw0
      clear ow0 bw0
      go_wp2
      go_loopw [10, 11] (fun o i wr => ∃ k : Nat, 1 ≤ k ∧ k ≤ 10 ∧ i = .int .i64 k ∧ wr.ownsRow W.heap.size 23 1 o k (us ((vL 1 x zs).take k)) ∧ Below W.heap.size W wr) (fun _ i _ => 10 - (intOf i).toNat)
      case atStart => exact ⟨1, Nat.le_refl _, by omega, rfl, OW.out, BW.out⟩
      case round =>
        rename_i Q1 K1 a1
        obtain ⟨k, hk1, hk10, rfl, hown, hbel⟩ := hrel
        clear OW BW
        by_cases hlt : k < 10
        · have hsn := take_snoc (vL 1 x zs) k (by simp [vL]; omega)
          rw [vL_get 1 x zs k hk1 (by omega)] at hsn
          have c50 := TW.hide (fun Y => H50.out k Y hk1 (by omega))
          have c53 := TW.hide (fun Y hb => H53.out k Y hk1 (by omega) hb)
          have hrn : rN 1 x k = if (k : Int) = 6 ∧ x = true then 4 else rSz 1 k := rfl
          generalize rV 1 x zs k = vk at *
          generalize rAt 1 k = ra at *
          have HSN := TW.hide hsn
          have HB := TW.hide hbel
          clear hsn hbel
          have k9 : (k : Int) ≤ 9 := by omega
          by_cases h6 : k = 6
          · subst h6
            cases x
            · rw [if_neg (by simp)] at hrn
              rw [hrn] at c53
              generalize rSz 1 (6 : Nat) = rs at *
              have h66 : (((6 : Nat) : Int) == 6) = true := rfl
              go_wp2_with fail
              refine (c50.out _).mono ?_
              rintro e w1 ⟨rfl, rfl⟩
              go_wp2_with fail
              refine (c53.out _ HB.out).mono ?_
              rintro e w1 ⟨rfl, rfl⟩
              go_wp2_with (at_builtin; refine wpList_append_own _ rfl _ _ 69 rfl W.heap.size 23 i0 (.int .u64 0) 1 8 Try.underlying69 hi hz0 hz1 hz2 rfl (by decide) _ _ _ rfl (hown.alloc _) ⟨wr.heap.size, 0, none⟩ 1 1 [.int .u64 vk] rfl rfl ?c1 ?c2 ?c3 ?c4 ?c5 ?_)
              case c1 => exact one_new28 _ _
              case c2 => intro u hu; simp at hu; subst hu; rfl
              case c3 => unfold maxLen; omega
              case c4 => omega
              case c5 => have := HB.out.size; simp; omega
              intro v' w2 hown' hgrow' _
              have hbel2 : Below W.heap.size W w2 := (HB.out.alloc HB.out.size _).grown hgrow' (by have := HB.out.size; simp; omega) (own_block28 hown)
              have K1' := TW.hide hown'
              have K2' := TW.hide hbel2
              clear hown hown' hgrow' hbel2
              go_wp2
              (first | (go_roundw; case' rel => skip) | (refine ⟨?_, ?measure⟩; (repeat apply Exists.intro); refine ⟨?rel, rfl⟩))
              case rel => exact ⟨6 + 1, by omega, by omega, by go_num, by rw [HSN.out, us_append]; exact K1'.out, K2'.out⟩
              case measure => simp [intOf]; try omega
            · rw [if_pos (by simp)] at hrn
              rw [hrn] at c53
              generalize rSz 1 (6 : Nat) = rs at *
              have h66 : (((6 : Nat) : Int) == 6) = true := rfl
              go_wp2_with fail
              refine (c50.out _).mono ?_
              rintro e w1 ⟨rfl, rfl⟩
              go_wp2_with fail
              refine (c53.out _ HB.out).mono ?_
              rintro e w1 ⟨rfl, rfl⟩
              go_wp2_with (at_builtin; refine wpList_append_own _ rfl _ _ 69 rfl W.heap.size 23 i0 (.int .u64 0) 1 8 Try.underlying69 hi hz0 hz1 hz2 rfl (by decide) _ _ _ rfl (hown.alloc _) ⟨wr.heap.size, 0, none⟩ 1 1 [.int .u64 vk] rfl rfl ?c1 ?c2 ?c3 ?c4 ?c5 ?_)
              case c1 => exact one_new28 _ _
              case c2 => intro u hu; simp at hu; subst hu; rfl
              case c3 => unfold maxLen; omega
              case c4 => omega
              case c5 => have := HB.out.size; simp; omega
              intro v' w2 hown' hgrow' _
              have hbel2 : Below W.heap.size W w2 := (HB.out.alloc HB.out.size _).grown hgrow' (by have := HB.out.size; simp; omega) (own_block28 hown)
              have K1' := TW.hide hown'
              have K2' := TW.hide hbel2
              clear hown hown' hgrow' hbel2
              go_wp2
              (first | (go_roundw; case' rel => skip) | (refine ⟨?_, ?measure⟩; (repeat apply Exists.intro); refine ⟨?rel, rfl⟩))
              case rel => exact ⟨6 + 1, by omega, by omega, by go_num, by rw [HSN.out, us_append]; exact K1'.out, K2'.out⟩
              case measure => simp [intOf]; try omega
          · rw [if_neg (by omega)] at hrn
            rw [hrn] at c53
            generalize rSz 1 k = rs at *
            have h66 : ((k : Int) == 6) = false := by simp; omega
            go_wp2_with fail
            refine (c50.out _).mono ?_
            rintro e w1 ⟨rfl, rfl⟩
            go_wp2_with fail
            refine (c53.out _ HB.out).mono ?_
            rintro e w1 ⟨rfl, rfl⟩
            go_wp2_with (at_builtin; refine wpList_append_own _ rfl _ _ 69 rfl W.heap.size 23 i0 (.int .u64 0) 1 8 Try.underlying69 hi hz0 hz1 hz2 rfl (by decide) _ _ _ rfl (hown.alloc _) ⟨wr.heap.size, 0, none⟩ 1 1 [.int .u64 vk] rfl rfl ?c1 ?c2 ?c3 ?c4 ?c5 ?_)
            case c1 => exact one_new28 _ _
            case c2 => intro u hu; simp at hu; subst hu; rfl
            case c3 => unfold maxLen; omega
            case c4 => omega
            case c5 => have := HB.out.size; simp; omega
            intro v' w2 hown' hgrow' _
            have hbel2 : Below W.heap.size W w2 := (HB.out.alloc HB.out.size _).grown hgrow' (by have := HB.out.size; simp; omega) (own_block28 hown)
            have K1' := TW.hide hown'
            have K2' := TW.hide hbel2
            clear hown hown' hgrow' hbel2
            go_wp2
            (first | (go_roundw; case' rel => skip) | (refine ⟨?_, ?measure⟩; (repeat apply Exists.intro); refine ⟨?rel, rfl⟩))
            case rel => exact ⟨k + 1, by omega, by omega, by go_num, by rw [HSN.out, us_append]; exact K1'.out, K2'.out⟩
            case measure => simp [intOf]; try omega
        · obtain rfl : k = 10 := by omega
          have HA := TW.hide a1
          clear a1
          have hV10 : (vL 1 x zs).take 10 = (vL 1 x zs) := rfl
          rw [hV10] at hown
          obtain ⟨g, vc, rfl, hg, hgl, hfz, hcells⟩ := us_own hown (by simp [vL])
          have n0 : wr.heap[B]? = some (.cells (pcP Pm.zero (.slice none 0 0) (.slice none 0 0)) 26 (0, 0)) := by rw [hbel.block B (blk_lt M0.out)]; exact M0.out
          have hb : Below B w wr := MB.out.trans (hbel.mono (by have := blk_lt M0.out; omega))
          have hgB : B < g := by have := blk_lt M0.out; omega
          have N0 := TW.hide n0
          have NB := TW.hide hb
          have HC := TW.hide hcells
          clear n0 hb hown hbel hcells hV10
          rw [show (vL 1 x zs).length = 10 from rfl] at *
          go_wp2
          refine HA.out _ _ ?_
          clear HA H50 H53 M0 MB
          have f7 := hfz 7
          clear hfz
          cases x
          · refine wp_seq_k fun KK hK => ?_
            have HK := TW.hide hK
            clear hK
            have c7 := HC.out 7 (by decide)
            generalize (vL 1 false zs).getD 7 0 = z7 at c7
            go_wp2
            clear c7 f7
            have hv : ∀ i : Nat, 1 ≤ i → i ≤ 9 → (wr.setCell ⟨g, 7, none⟩ (.int .u64 0)).cell? ⟨g, i, none⟩ = some (.int .u64 ((dP 1 false zs).nv i)) := fun i h1 h9 => by
              rw [dP_nv 1 false zs i (by omega) (by omega)]
              by_cases h7 : i = 7
              · subst h7
                rw [show fV 1 false zs ((7 : Nat) : Int) = 0 from fV7_false 1 zs]
                exact cell_setCell_same (HC.out 7 (by decide))
              · rw [cell_setCell_off (by omega), HC.out i (by omega), vL_get _ _ _ i h1 h9, rV_fV _ _ _ _ (.inl (by omega))]
            have n0 := blk_other (p := g) (o := 7) (u := .int .u64 0) N0.out (by omega)
            have nb := NB.out.setCell (p := ⟨g, 7, none⟩) (by simp; omega) (.int .u64 0)
            clear HC N0 NB
            generalize wr.setCell ⟨g, 7, none⟩ (.int .u64 0) = Y1 at *
            refine HK.out _ _ ?_
            clear HK KK
            have N0 := TW.hide n0
            have NB := TW.hide nb
            have HV := TW.hide hv
            clear n0 nb hv
            have hbd := fun f h1 h9 => fV_bd 1 f false zs HZ.out (.inl rfl) h1 h9
            have x1 : IntKind.i64.wrap ((dP 1 false zs).nv 1) = (dP 1 false zs).nv 1 := by
              have h := hbd 1 (by decide) (by decide)
              have h4 := h.2.2.1 (by decide)
              rw [dP_nv 1 false zs 1 (by decide) (by decide), IntKind.wrap_i64]; omega
            have x2 : IntKind.i64.wrap ((dP 1 false zs).nv 2) = (dP 1 false zs).nv 2 := by
              have h := hbd 2 (by decide) (by decide)
              have h4 := h.2.2.1 (by decide)
              rw [dP_nv 1 false zs 2 (by decide) (by decide), IntKind.wrap_i64]; omega
            have x3 : IntKind.i64.wrap ((dP 1 false zs).nv 3) = (dP 1 false zs).nv 3 := by
              have h := hbd 3 (by decide) (by decide)
              have h4 := h.2.2.1 (by decide)
              rw [dP_nv 1 false zs 3 (by decide) (by decide), IntKind.wrap_i64]; omega
            have x4 : IntKind.i64.wrap ((dP 1 false zs).nv 4) = (dP 1 false zs).nv 4 := by
              have h := hbd 4 (by decide) (by decide)
              have h4 := h.2.2.1 (by decide)
              rw [dP_nv 1 false zs 4 (by decide) (by decide), IntKind.wrap_i64]; omega
            have x5 : IntKind.u32.wrap ((dP 1 false zs).nv 5) = (dP 1 false zs).nv 5 := by
              have h := hbd 5 (by decide) (by decide)
              have h4 := h.2.2.1 (by decide)
              rw [dP_nv 1 false zs 5 (by decide) (by decide), IntKind.wrap_u32]; omega
            have x7 : IntKind.u32.wrap ((dP 1 false zs).nv 7) = (dP 1 false zs).nv 7 := by
              have h := hbd 7 (by decide) (by decide)
              have h4 := h.2.2.1 (by decide)
              rw [dP_nv 1 false zs 7 (by decide) (by decide), IntKind.wrap_u32]; omega
            have x8 : IntKind.i64.wrap ((dP 1 false zs).nv 8) = (dP 1 false zs).nv 8 := by
              have h := hbd 8 (by decide) (by decide)
              have h4 := h.2.2.1 (by decide)
              rw [dP_nv 1 false zs 8 (by decide) (by decide), IntKind.wrap_i64]; omega
            have x9 : IntKind.i64.wrap ((dP 1 false zs).nv 9) = (dP 1 false zs).nv 9 := by
              have h := hbd 9 (by decide) (by decide)
              have h4 := h.2.2.1 (by decide)
              rw [dP_nv 1 false zs 9 (by decide) (by decide), IntKind.wrap_i64]; omega
            clear hbd
            have hok := dP_Ok 1 false zs HZ.out (.inl rfl)
            obtain ⟨hsl, hpl⟩ := sa_length 1 zs (.inl rfl) (by rw [HL.out]; rfl)
            have hs4 : (mo 1 / 4).toNat = 16 := rfl
            rw [hs4] at hsl hpl
            have H20 := TW.hide (fun Y (hbY : Below w.heap.size w Y) => rnormalP 1 (dP 1 false zs) hok (some ⟨b, off + 32, none⟩) (some ⟨b, off + 48, none⟩) (cap - 32) (cap - 48) (saL 1 zs) (peL 1 zs) Y
              ⟨(HRB.out Y (hB ▸ hbY)).sub 32 16 (by rw [HL.out]; decide), (fun h => by cases h), by rw [hsl]; decide, by rw [hsl]; have := HCAP.out; have := HL.out; omega, (HZ.out.drop _).take _⟩ ⟨(HRB.out Y (hB ▸ hbY)).sub 48 16 (by rw [HL.out]; decide), (fun h => by cases h), by rw [hpl]; decide, by rw [hpl]; have := HCAP.out; have := HL.out; omega, (HZ.out.drop _).take _⟩)
            rw [hsl, hpl, hB] at H20
            have HEQ : Hid ((mo 1 / 4).toNat = 16) := hs4
            clear hok hsl hpl hs4
            generalize hPP : (dP 1 false zs) = PP at *
            have HPP := TW.hide hPP
            clear hPP
            generalize hEE : PP.ck 1 16 16 = EE at *
            have HEE := TW.hide hEE
            clear hEE
            have H11 : Hid (∀ Y : World, Calls Try.prog 36 #[.int .i64 1] Y fun e w' => e = .returned (.int .i64 64) ∧ Y = w') := fun Y => rmost 1 Y
            refine wp_seq_k fun KK hK => ?_
            have HK := TW.hide hK
            clear hK
            go_wp2_with fail
            refine (H11.out _).mono ?_
            rintro e w2 ⟨rfl, rfl⟩
            go_wp2
            refine HK.out _ _ ?_
            clear HK KK H11
            have hcap : (64 : Int) ≤ (cap : Int) := by have := HCAP.out; have := HL.out; omega
            have w32 : IntKind.i64.wrap 32 = 32 := by rw [IntKind.wrap_i64]; rfl
            have l32 : (32 : Int) ≤ (cap : Int) := by omega
            have n32 : ¬ cap = 32 := by omega
            have w48 : IntKind.i64.wrap 48 = 48 := by rw [IntKind.wrap_i64]; rfl
            have l48 : (48 : Int) ≤ (cap : Int) := by omega
            have n48 : ¬ cap = 48 := by omega
            have w64 : IntKind.i64.wrap 64 = 64 := by rw [IntKind.wrap_i64]; rfl
            have l64 : (64 : Int) ≤ (cap : Int) := by omega
            refine wp_seq_k fun KK hKK => ?_
            have HKK := TW.hide hKK
            clear hKK
            refine wp_region_noPanic ?_
            refine RG.wp_region_L (fun Z => True) (fun Z => (∀ i : Nat, 1 ≤ i → i ≤ 9 → Z.cell? ⟨g, i, none⟩ = some (.int .u64 (PP.nv i))) ∧ Z.heap[B]? = some (.cells (pcP Pm.zero (.slice none 0 0) (.slice none 0 0)) 26 (0, 0)) ∧ Below B w Z ∧ g < Z.heap.size) [] (by kernel_rfl) ?_
            have HT0 : Hid ((∀ i : Nat, 1 ≤ i → i ≤ 9 → Y1.drew.cell? ⟨g, i, none⟩ = some (.int .u64 (PP.nv i))) ∧ Y1.drew.heap[B]? = some (.cells (pcP Pm.zero (.slice none 0 0) (.slice none 0 0)) 26 (0, 0)) ∧ Below B w Y1.drew ∧ g < Y1.drew.heap.size) := ⟨HV.out, N0.out, below_drewN NB.out 1, blk_lt_cell (HV.out 1 (by decide) (by decide))⟩
            clear HV N0 NB
            generalize Y1.drew = Y2 at *
            refine RG.wpL_take (fuel := 2) (a' := ?Afalse) [0, 1, 2, 3, 4, 5, 6, 7, 8, 9, 10, 11, 12, 13, 14, 15, 16, 17, 18, 19, 20, 21, 22, 23, 24, 25, 26, 27, 28, 29, 30, 31, 32, 33, 34, 35, 36, 37, 38, 39, 40, 41, 42, 43, 44, 45, 46, 47] (by kernel_rfl) (by kernel_rfl) (fun _ _ _ _ _ h => h) HT0.out (fun _ => trivial) ?rfalse ?_
            case rfalse =>
              refine RG.RunsIf.weak (v := ?_) (by rfl) (by rfl) (fun Z hT => ?_) ?_
              rotate_left
              · skip
                go_simp
                rfl
              simp only [Act.put, List.setIfInBounds_toArray, List.set_cons_zero, List.set_cons_succ, List.getElem_toArray, List.getElem_cons_zero, List.getElem_cons_succ]
              refine RG.RunsIf.weak (v := ?_) (by rfl) (by rfl) (fun Z hT => ?_) ?_
              rotate_left
              · skip
                go_simp
                rfl
              simp only [Act.put, List.setIfInBounds_toArray, List.set_cons_zero, List.set_cons_succ, List.getElem_toArray, List.getElem_cons_zero, List.getElem_cons_succ]
              refine RG.RunsIf.weak (v := ?_) (by rfl) (by rfl) (fun Z hT => ?_) ?_
              rotate_left
              · have c : Z.cell? ⟨g, 1, none⟩ = some (.int .u64 PP.d) := hT.1 1 (by decide) (by decide)
                go_simp
                rfl
              simp only [Act.put, List.setIfInBounds_toArray, List.set_cons_zero, List.set_cons_succ, List.getElem_toArray, List.getElem_cons_zero, List.getElem_cons_succ]
              refine RG.RunsIf.weak (v := ?_) (by rfl) (by rfl) (fun Z hT => ?_) ?_
              rotate_left
              · skip
                go_simp
                rfl
              simp only [Act.put, List.setIfInBounds_toArray, List.set_cons_zero, List.set_cons_succ, List.getElem_toArray, List.getElem_cons_zero, List.getElem_cons_succ]
              refine RG.RunsIf.weak (v := ?_) (by rfl) (by rfl) (fun Z hT => ?_) ?_
              rotate_left
              · skip
                go_simp
                rfl
              simp only [Act.put, List.setIfInBounds_toArray, List.set_cons_zero, List.set_cons_succ, List.getElem_toArray, List.getElem_cons_zero, List.getElem_cons_succ]
              refine RG.RunsIf.weak (v := ?_) (by rfl) (by rfl) (fun Z hT => ?_) ?_
              rotate_left
              · skip
                go_simp
                rfl
              simp only [Act.put, List.setIfInBounds_toArray, List.set_cons_zero, List.set_cons_succ, List.getElem_toArray, List.getElem_cons_zero, List.getElem_cons_succ]
              refine RG.RunsIf.weak (v := ?_) (by rfl) (by rfl) (fun Z hT => ?_) ?_
              rotate_left
              · have c : Z.cell? ⟨g, 2, none⟩ = some (.int .u64 PP.k) := hT.1 2 (by decide) (by decide)
                go_simp
                rfl
              simp only [Act.put, List.setIfInBounds_toArray, List.set_cons_zero, List.set_cons_succ, List.getElem_toArray, List.getElem_cons_zero, List.getElem_cons_succ]
              refine RG.RunsIf.weak (v := ?_) (by rfl) (by rfl) (fun Z hT => ?_) ?_
              rotate_left
              · skip
                go_simp
                rfl
              simp only [Act.put, List.setIfInBounds_toArray, List.set_cons_zero, List.set_cons_succ, List.getElem_toArray, List.getElem_cons_zero, List.getElem_cons_succ]
              refine RG.RunsIf.weak (v := ?_) (by rfl) (by rfl) (fun Z hT => ?_) ?_
              rotate_left
              · skip
                go_simp
                rfl
              simp only [Act.put, List.setIfInBounds_toArray, List.set_cons_zero, List.set_cons_succ, List.getElem_toArray, List.getElem_cons_zero, List.getElem_cons_succ]
              refine RG.RunsIf.weak (v := ?_) (by rfl) (by rfl) (fun Z hT => ?_) ?_
              rotate_left
              · skip
                go_simp
                rfl
              simp only [Act.put, List.setIfInBounds_toArray, List.set_cons_zero, List.set_cons_succ, List.getElem_toArray, List.getElem_cons_zero, List.getElem_cons_succ]
              refine RG.RunsIf.weak (v := ?_) (by rfl) (by rfl) (fun Z hT => ?_) ?_
              rotate_left
              · have c : Z.cell? ⟨g, 3, none⟩ = some (.int .u64 PP.f) := hT.1 3 (by decide) (by decide)
                go_simp
                rfl
              simp only [Act.put, List.setIfInBounds_toArray, List.set_cons_zero, List.set_cons_succ, List.getElem_toArray, List.getElem_cons_zero, List.getElem_cons_succ]
              refine RG.RunsIf.weak (v := ?_) (by rfl) (by rfl) (fun Z hT => ?_) ?_
              rotate_left
              · skip
                go_simp
                rfl
              simp only [Act.put, List.setIfInBounds_toArray, List.set_cons_zero, List.set_cons_succ, List.getElem_toArray, List.getElem_cons_zero, List.getElem_cons_succ]
              refine RG.RunsIf.weak (v := ?_) (by rfl) (by rfl) (fun Z hT => ?_) ?_
              rotate_left
              · skip
                go_simp
                rfl
              simp only [Act.put, List.setIfInBounds_toArray, List.set_cons_zero, List.set_cons_succ, List.getElem_toArray, List.getElem_cons_zero, List.getElem_cons_succ]
              refine RG.RunsIf.weak (v := ?_) (by rfl) (by rfl) (fun Z hT => ?_) ?_
              rotate_left
              · skip
                go_simp
                rfl
              simp only [Act.put, List.setIfInBounds_toArray, List.set_cons_zero, List.set_cons_succ, List.getElem_toArray, List.getElem_cons_zero, List.getElem_cons_succ]
              refine RG.RunsIf.weak (v := ?_) (by rfl) (by rfl) (fun Z hT => ?_) ?_
              rotate_left
              · have c : Z.cell? ⟨g, 4, none⟩ = some (.int .u64 PP.dp) := hT.1 4 (by decide) (by decide)
                go_simp
                rfl
              simp only [Act.put, List.setIfInBounds_toArray, List.set_cons_zero, List.set_cons_succ, List.getElem_toArray, List.getElem_cons_zero, List.getElem_cons_succ]
              refine RG.RunsIf.weak (v := ?_) (by rfl) (by rfl) (fun Z hT => ?_) ?_
              rotate_left
              · skip
                go_simp
                rfl
              simp only [Act.put, List.setIfInBounds_toArray, List.set_cons_zero, List.set_cons_succ, List.getElem_toArray, List.getElem_cons_zero, List.getElem_cons_succ]
              refine RG.RunsIf.weak (v := ?_) (by rfl) (by rfl) (fun Z hT => ?_) ?_
              rotate_left
              · skip
                go_simp
                rfl
              simp only [Act.put, List.setIfInBounds_toArray, List.set_cons_zero, List.set_cons_succ, List.getElem_toArray, List.getElem_cons_zero, List.getElem_cons_succ]
              refine RG.RunsIf.weak (v := ?_) (by rfl) (by rfl) (fun Z hT => ?_) ?_
              rotate_left
              · skip
                go_simp
                rfl
              simp only [Act.put, List.setIfInBounds_toArray, List.set_cons_zero, List.set_cons_succ, List.getElem_toArray, List.getElem_cons_zero, List.getElem_cons_succ]
              refine RG.RunsIf.weak (v := ?_) (by rfl) (by rfl) (fun Z hT => ?_) ?_
              rotate_left
              · have c : Z.cell? ⟨g, 5, none⟩ = some (.int .u64 PP.lf) := hT.1 5 (by decide) (by decide)
                go_simp
                rfl
              simp only [Act.put, List.setIfInBounds_toArray, List.set_cons_zero, List.set_cons_succ, List.getElem_toArray, List.getElem_cons_zero, List.getElem_cons_succ]
              refine RG.RunsIf.weak (v := ?_) (by rfl) (by rfl) (fun Z hT => ?_) ?_
              rotate_left
              · skip
                go_simp
                rfl
              simp only [Act.put, List.setIfInBounds_toArray, List.set_cons_zero, List.set_cons_succ, List.getElem_toArray, List.getElem_cons_zero, List.getElem_cons_succ]
              refine RG.RunsIf.weak (v := ?_) (by rfl) (by rfl) (fun Z hT => ?_) ?_
              rotate_left
              · skip
                go_simp
                rfl
              simp only [Act.put, List.setIfInBounds_toArray, List.set_cons_zero, List.set_cons_succ, List.getElem_toArray, List.getElem_cons_zero, List.getElem_cons_succ]
              refine RG.RunsIf.weak (v := ?_) (by rfl) (by rfl) (fun Z hT => ?_) ?_
              rotate_left
              · skip
                go_simp
                rfl
              simp only [Act.put, List.setIfInBounds_toArray, List.set_cons_zero, List.set_cons_succ, List.getElem_toArray, List.getElem_cons_zero, List.getElem_cons_succ]
              refine RG.RunsIf.weak (v := ?_) (by rfl) (by rfl) (fun Z hT => ?_) ?_
              rotate_left
              · have c : Z.cell? ⟨g, 6, none⟩ = some (.int .u64 PP.off) := hT.1 6 (by decide) (by decide)
                go_simp
                rfl
              simp only [Act.put, List.setIfInBounds_toArray, List.set_cons_zero, List.set_cons_succ, List.getElem_toArray, List.getElem_cons_zero, List.getElem_cons_succ]
              refine RG.RunsIf.weak (v := ?_) (by rfl) (by rfl) (fun Z hT => ?_) ?_
              rotate_left
              · skip
                go_simp
                rfl
              simp only [Act.put, List.setIfInBounds_toArray, List.set_cons_zero, List.set_cons_succ, List.getElem_toArray, List.getElem_cons_zero, List.getElem_cons_succ]
              refine RG.RunsIf.weak (v := ?_) (by rfl) (by rfl) (fun Z hT => ?_) ?_
              rotate_left
              · skip
                go_simp
                rfl
              simp only [Act.put, List.setIfInBounds_toArray, List.set_cons_zero, List.set_cons_succ, List.getElem_toArray, List.getElem_cons_zero, List.getElem_cons_succ]
              refine RG.RunsIf.weak (v := ?_) (by rfl) (by rfl) (fun Z hT => ?_) ?_
              rotate_left
              · have c : Z.cell? ⟨g, 7, none⟩ = some (.int .u64 PP.xof) := hT.1 7 (by decide) (by decide)
                go_simp
                rfl
              simp only [Act.put, List.setIfInBounds_toArray, List.set_cons_zero, List.set_cons_succ, List.getElem_toArray, List.getElem_cons_zero, List.getElem_cons_succ]
              refine RG.RunsIf.weak (v := ?_) (by rfl) (by rfl) (fun Z hT => ?_) ?_
              rotate_left
              · skip
                go_simp
                rfl
              simp only [Act.put, List.setIfInBounds_toArray, List.set_cons_zero, List.set_cons_succ, List.getElem_toArray, List.getElem_cons_zero, List.getElem_cons_succ]
              refine RG.RunsIf.weak (v := ?_) (by rfl) (by rfl) (fun Z hT => ?_) ?_
              rotate_left
              · skip
                go_simp
                rfl
              simp only [Act.put, List.setIfInBounds_toArray, List.set_cons_zero, List.set_cons_succ, List.getElem_toArray, List.getElem_cons_zero, List.getElem_cons_succ]
              refine RG.RunsIf.weak (v := ?_) (by rfl) (by rfl) (fun Z hT => ?_) ?_
              rotate_left
              · skip
                go_simp
                rfl
              simp only [Act.put, List.setIfInBounds_toArray, List.set_cons_zero, List.set_cons_succ, List.getElem_toArray, List.getElem_cons_zero, List.getElem_cons_succ]
              refine RG.RunsIf.weak (v := ?_) (by rfl) (by rfl) (fun Z hT => ?_) ?_
              rotate_left
              · have c : Z.cell? ⟨g, 8, none⟩ = some (.int .u64 PP.nd) := hT.1 8 (by decide) (by decide)
                go_simp
                rfl
              simp only [Act.put, List.setIfInBounds_toArray, List.set_cons_zero, List.set_cons_succ, List.getElem_toArray, List.getElem_cons_zero, List.getElem_cons_succ]
              refine RG.RunsIf.weak (v := ?_) (by rfl) (by rfl) (fun Z hT => ?_) ?_
              rotate_left
              · skip
                go_simp
                rfl
              simp only [Act.put, List.setIfInBounds_toArray, List.set_cons_zero, List.set_cons_succ, List.getElem_toArray, List.getElem_cons_zero, List.getElem_cons_succ]
              refine RG.RunsIf.weak (v := ?_) (by rfl) (by rfl) (fun Z hT => ?_) ?_
              rotate_left
              · skip
                go_simp
                rfl
              simp only [Act.put, List.setIfInBounds_toArray, List.set_cons_zero, List.set_cons_succ, List.getElem_toArray, List.getElem_cons_zero, List.getElem_cons_succ]
              refine RG.RunsIf.weak (v := ?_) (by rfl) (by rfl) (fun Z hT => ?_) ?_
              rotate_left
              · skip
                go_simp
                rfl
              simp only [Act.put, List.setIfInBounds_toArray, List.set_cons_zero, List.set_cons_succ, List.getElem_toArray, List.getElem_cons_zero, List.getElem_cons_succ]
              refine RG.RunsIf.weak (v := ?_) (by rfl) (by rfl) (fun Z hT => ?_) ?_
              rotate_left
              · have c : Z.cell? ⟨g, 9, none⟩ = some (.int .u64 PP.inn) := hT.1 9 (by decide) (by decide)
                go_simp
                rfl
              simp only [Act.put, List.setIfInBounds_toArray, List.set_cons_zero, List.set_cons_succ, List.getElem_toArray, List.getElem_cons_zero, List.getElem_cons_succ]
              refine RG.RunsIf.weak (v := ?_) (by rfl) (by rfl) (fun Z hT => ?_) ?_
              rotate_left
              · skip
                go_simp
                rfl
              simp only [Act.put, List.setIfInBounds_toArray, List.set_cons_zero, List.set_cons_succ, List.getElem_toArray, List.getElem_cons_zero, List.getElem_cons_succ]
              refine RG.RunsIf.weak (v := ?_) (by rfl) (by rfl) (fun Z hT => ?_) ?_
              rotate_left
              · skip
                go_simp
                rfl
              simp only [Act.put, List.setIfInBounds_toArray, List.set_cons_zero, List.set_cons_succ, List.getElem_toArray, List.getElem_cons_zero, List.getElem_cons_succ]
              refine RG.RunsIf.weak (v := ?_) (by rfl) (by rfl) (fun Z hT => ?_) ?_
              rotate_left
              · skip
                go_simp
                rfl
              simp only [Act.put, List.setIfInBounds_toArray, List.set_cons_zero, List.set_cons_succ, List.getElem_toArray, List.getElem_cons_zero, List.getElem_cons_succ]
              refine RG.RunsIf.weak (v := ?_) (by rfl) (by rfl) (fun Z hT => ?_) ?_
              rotate_left
              · skip
                go_simp
                rfl
              simp only [Act.put, List.setIfInBounds_toArray, List.set_cons_zero, List.set_cons_succ, List.getElem_toArray, List.getElem_cons_zero, List.getElem_cons_succ]
              refine RG.RunsIf.weak (v := ?_) (by rfl) (by rfl) (fun Z hT => ?_) ?_
              rotate_left
              · skip
                go_simp
                rfl
              simp only [Act.put, List.setIfInBounds_toArray, List.set_cons_zero, List.set_cons_succ, List.getElem_toArray, List.getElem_cons_zero, List.getElem_cons_succ]
              refine RG.RunsIf.weak (v := ?_) (by rfl) (by rfl) (fun Z hT => ?_) ?_
              rotate_left
              · skip
                go_simp
                rfl
              simp only [Act.put, List.setIfInBounds_toArray, List.set_cons_zero, List.set_cons_succ, List.getElem_toArray, List.getElem_cons_zero, List.getElem_cons_succ]
              refine RG.RunsIf.weak (v := ?_) (by rfl) (by rfl) (fun Z hT => ?_) ?_
              rotate_left
              · skip
                go_simp
                rfl
              simp only [Act.put, List.setIfInBounds_toArray, List.set_cons_zero, List.set_cons_succ, List.getElem_toArray, List.getElem_cons_zero, List.getElem_cons_succ]
              refine RG.RunsIf.weak (v := ?_) (by rfl) (by rfl) (fun Z hT => ?_) ?_
              rotate_left
              · skip
                go_simp
                rfl
              simp only [Act.put, List.setIfInBounds_toArray, List.set_cons_zero, List.set_cons_succ, List.getElem_toArray, List.getElem_cons_zero, List.getElem_cons_succ]
              refine RG.RunsIf.weak (v := ?_) (by rfl) (by rfl) (fun Z hT => ?_) ?_
              rotate_left
              · skip
                go_simp
                rfl
              simp only [Act.put, List.setIfInBounds_toArray, List.set_cons_zero, List.set_cons_succ, List.getElem_toArray, List.getElem_cons_zero, List.getElem_cons_succ]
              refine RG.RunsIf.weak (v := ?_) (by rfl) (by rfl) (fun Z hT => ?_) ?_
              rotate_left
              · skip
                go_simp
                rfl
              simp only [Act.put, List.setIfInBounds_toArray, List.set_cons_zero, List.set_cons_succ, List.getElem_toArray, List.getElem_cons_zero, List.getElem_cons_succ]
              refine RG.RunsIf.weak (v := ?_) (by rfl) (by rfl) (fun Z hT => ?_) ?_
              rotate_left
              · skip
                go_simp
                rfl
              simp only [Act.put, List.setIfInBounds_toArray, List.set_cons_zero, List.set_cons_succ, List.getElem_toArray, List.getElem_cons_zero, List.getElem_cons_succ]
              refine RG.RunsIf.weak (v := ?_) (by rfl) (by rfl) (fun Z hT => ?_) ?_
              rotate_left
              · skip
                go_simp
                rfl
              simp only [Act.put, List.setIfInBounds_toArray, List.set_cons_zero, List.set_cons_succ, List.getElem_toArray, List.getElem_cons_zero, List.getElem_cons_succ]
              refine RG.RunsIf.weak (v := ?_) (by rfl) (by rfl) (fun Z hT => ?_) ?_
              rotate_left
              · skip
                go_simp
                rfl
              simp only [Act.put, List.setIfInBounds_toArray, List.set_cons_zero, List.set_cons_succ, List.getElem_toArray, List.getElem_cons_zero, List.getElem_cons_succ]
              refine RG.RunsIf.weak (v := ?_) (by rfl) (by rfl) (fun Z hT => ?_) ?_
              rotate_left
              · skip
                go_simp
                rfl
              simp only [Act.put, List.setIfInBounds_toArray, List.set_cons_zero, List.set_cons_succ, List.getElem_toArray, List.getElem_cons_zero, List.getElem_cons_succ]
              exact RG.RunsIf.nil
            refine RG.wpL_step (i := 48) (by kernel_rfl) (by rfl) (by rfl) (fun K hK => ?_)
            have HK := TW.hide hK
            clear hK
            go_simp
            have hn := heap_new Y2 (.cells #[.int .i64 0, .int .i64 0, .int .i64 0, .int .i64 0, .int .u32 0, .int .u64 0, .int .u32 0, .int .i64 0, .int .i64 0, .slice none 0 0, .slice none 0 0] 26)
            have ba := (Below.refl Y2.heap.size Y2).alloc (Nat.le_refl _) (.cells #[.int .i64 0, .int .i64 0, .int .i64 0, .int .i64 0, .int .u32 0, .int .u64 0, .int .u32 0, .int .i64 0, .int .i64 0, .slice none 0 0, .slice none 0 0] 26)
            have HT1 : Hid ((∀ i : Nat, 1 ≤ i → i ≤ 9 → (Y2.alloc (.cells #[.int .i64 0, .int .i64 0, .int .i64 0, .int .i64 0, .int .u32 0, .int .u64 0, .int .u32 0, .int .i64 0, .int .i64 0, .slice none 0 0, .slice none 0 0] 26)).cell? ⟨g, i, none⟩ = some (.int .u64 (PP.nv i))) ∧ (Y2.alloc (.cells #[.int .i64 0, .int .i64 0, .int .i64 0, .int .i64 0, .int .u32 0, .int .u64 0, .int .u32 0, .int .i64 0, .int .i64 0, .slice none 0 0, .slice none 0 0] 26)).heap[B]? = some (.cells (pcP Pm.zero (.slice none 0 0) (.slice none 0 0)) 26 (0, 0)) ∧ Below B w (Y2.alloc (.cells #[.int .i64 0, .int .i64 0, .int .i64 0, .int .i64 0, .int .u32 0, .int .u64 0, .int .u32 0, .int .i64 0, .int .i64 0, .slice none 0 0, .slice none 0 0] 26)) ∧ g < (Y2.alloc (.cells #[.int .i64 0, .int .i64 0, .int .i64 0, .int .i64 0, .int .u32 0, .int .u64 0, .int .u32 0, .int .i64 0, .int .i64 0, .slice none 0 0, .slice none 0 0] 26)).heap.size) := ⟨fun i h1 h9 => by rw [ba.cell HT0.out.2.2.2]; exact HT0.out.1 i h1 h9, blk_keep HT0.out.2.1 ba, below_row HT0.out.2.2.1 ba (by have := blk_lt HT0.out.2.1; omega), by simp; have := HT0.out.2.2.2; omega⟩
            refine HK.out _ _ HT1.out (fun _ => trivial) ?_
            clear HK K ba
            have hBh : B < Y2.heap.size := blk_lt HT0.out.2.1
            have hgh : g < Y2.heap.size := HT0.out.2.2.2
            clear HT0
            generalize Y2.alloc (.cells #[.int .i64 0, .int .i64 0, .int .i64 0, .int .i64 0, .int .u32 0, .int .u64 0, .int .u32 0, .int .i64 0, .int .i64 0, .slice none 0 0, .slice none 0 0] 26) = Y3 at *
            have HN := TW.hide hn
            clear hn
            generalize Y2.heap.size = h at *
            refine RG.wpL_step (i := 49) (by kernel_rfl) (by rfl) (by rfl) (fun K hK => ?_)
            have HK := TW.hide hK
            clear hK
            refine wp_store_row 26 _ _ (by rfl) h (pcP PP (.slice (some ⟨b, off + 32, none⟩) 16 (cap - 32)) (.slice (some ⟨b, off + 48, none⟩) 16 (cap - 48))) (by rfl) (by rfl) 26 _ HN.out (info31 _ _ _) (pc_size Pm.zero _ _ _ _ _) (pc_one _ _ _ _ _ _ _) ?_
            have HT2 : Hid ((∀ i : Nat, 1 ≤ i → i ≤ 9 → (Y3.setRow h (pcP PP (.slice (some ⟨b, off + 32, none⟩) 16 (cap - 32)) (.slice (some ⟨b, off + 48, none⟩) 16 (cap - 48)))).cell? ⟨g, i, none⟩ = some (.int .u64 (PP.nv i))) ∧ (Y3.setRow h (pcP PP (.slice (some ⟨b, off + 32, none⟩) 16 (cap - 32)) (.slice (some ⟨b, off + 48, none⟩) 16 (cap - 48)))).heap[B]? = some (.cells (pcP Pm.zero (.slice none 0 0) (.slice none 0 0)) 26 (0, 0)) ∧ Below B w (Y3.setRow h (pcP PP (.slice (some ⟨b, off + 32, none⟩) 16 (cap - 32)) (.slice (some ⟨b, off + 48, none⟩) 16 (cap - 48)))) ∧ g < (Y3.setRow h (pcP PP (.slice (some ⟨b, off + 32, none⟩) 16 (cap - 32)) (.slice (some ⟨b, off + 48, none⟩) 16 (cap - 48)))).heap.size) := ⟨fun i h1 h9 => by rw [cell_setRow_other (by omega)]; exact HT1.out.1 i h1 h9, by rw [setRow_other _ _ _ _ (by omega)]; exact HT1.out.2.1, below_setRow HT1.out.2.2.1 (by omega), by simpa using HT1.out.2.2.2⟩
            have NH : Hid ((Y3.setRow h (pcP PP (.slice (some ⟨b, off + 32, none⟩) 16 (cap - 32)) (.slice (some ⟨b, off + 48, none⟩) 16 (cap - 48)))).heap[h]? = some (.cells (pcP PP (.slice (some ⟨b, off + 32, none⟩) 16 (cap - 32)) (.slice (some ⟨b, off + 48, none⟩) 16 (cap - 48))) 26 (0, 0))) := setRow_heap _ _ _ _ _ _ HN.out
            refine HK.out _ _ HT2.out (fun _ => trivial) ?_
            clear HK K HT1 HN
            generalize Y3.setRow h (pcP PP (.slice (some ⟨b, off + 32, none⟩) 16 (cap - 32)) (.slice (some ⟨b, off + 48, none⟩) 16 (cap - 48))) = Y4 at *
            refine RG.wpL_done (by kernel_rfl) ?_ _
            refine NoPanic.normal ?_
            refine HKK.out _ _ ?_
            clear HKK KK
            go_wp2_with (refine wpList_load_row (by rfl) 26 _ (by rfl) (h) (by rfl) 26 (pcP PP (.slice (some ⟨b, off + 32, none⟩) 16 (cap - 32)) (.slice (some ⟨b, off + 48, none⟩) 16 (cap - 48))) (0, 0) _ NH.out Try.underlying26 rfl (info31 _ _ _) ?_)
            refine (H20.out _ HT2.out.2.2.1).mono ?_
            rintro e w9 ⟨u, v, rfl, ou, ov, hb9⟩
            have hsz := blk_lt HT2.out.2.1
            have M0 := TW.hide (blk_keep HT2.out.2.1 hb9)
            have MB : Hid (Below B w w9) := below_row HT2.out.2.2.1 hb9 (by omega)
            obtain ⟨ua, uc, rfl⟩ := own_form ou
            obtain ⟨va, vc, rfl⟩ := own_form ov
            have OU := TW.hide (own_mono' (own_setRow (cs := pcP (nP EE PP) (.slice ua (nS EE (saL 1 zs)).length uc) (.slice va (nS EE (peL 1 zs)).length vc)) ou hsz) (show B ≤ Y4.heap.size by omega))
            have OV := TW.hide (own_mono' (own_setRow (cs := pcP (nP EE PP) (.slice ua (nS EE (saL 1 zs)).length uc) (.slice va (nS EE (peL 1 zs)).length vc)) ov hsz) (show B ≤ Y4.heap.size by omega))
            clear hb9 NH HT2 ou ov
            go_wp2_with (refine wpList_store_row (by rfl) 26 _ _ (by rfl) (B) (pcP (nP EE PP) (.slice ua (nS EE (saL 1 zs)).length uc) (.slice va (nS EE (peL 1 zs)).length vc)) (by rfl) (by rfl) 26 _ M0.out (info31 _ _ _) (pc_size _ _ _ _ _ _) (pc_one _ _ _ _ _ _ _) ?_)
            refine bodyPost_ret (v := .tuple #[.agg (pcP (nP EE PP) (.slice ua (nS EE (saL 1 zs)).length uc) (.slice va (nS EE (peL 1 zs)).length vc)), .int .i64 EE]) (results_row_tmp (P := Try.prog) Try.results13 _ _ B 26 _ (0, 0) _ _ (by rfl) (by rfl) (setRow_heap _ _ _ _ _ _ M0.out) Try.underlying26 rfl (info31 _ _ _)) rfl ?_
            have e1 := HEE.out
            have e2 := HPP.out
            subst e1 e2
            rw [HEQ.out]
            exact ⟨_, _, rfl, OU.out, OV.out, below_setRow MB.out (Nat.le_refl _)⟩
          · refine wp_seq_k fun KK hK => ?_
            have HK := TW.hide hK
            clear hK
            have c7 := HC.out 7 (by decide)
            rw [vL_get 1 true zs 7 (by decide) (by decide), rV_fV _ _ _ _ (.inr rfl)] at c7
            have e7 : (fV 1 true zs ((7 : Nat) : Int) == 0) = false := by simpa [dP] using HXX.out
            generalize fV 1 true zs ((7 : Nat) : Int) = z7 at c7 e7
            go_wp2
            clear c7 f7 e7
            have hv : ∀ i : Nat, 1 ≤ i → i ≤ 9 → wr.cell? ⟨g, i, none⟩ = some (.int .u64 ((dP 1 true zs).nv i)) := fun i h1 h9 => by
              rw [dP_nv 1 true zs i (by omega) (by omega), HC.out i (by omega), vL_get _ _ _ i h1 h9, rV_fV _ _ _ _ (.inr rfl)]
            have n0 := N0.out
            have nb := NB.out
            clear HC N0 NB
            generalize wr = Y1 at *
            refine HK.out _ _ ?_
            clear HK KK
            have N0 := TW.hide n0
            have NB := TW.hide nb
            have HV := TW.hide hv
            clear n0 nb hv
            have hbd := fun f h1 h9 => fV_bd 1 f true zs HZ.out (.inl rfl) h1 h9
            have x1 : IntKind.i64.wrap ((dP 1 true zs).nv 1) = (dP 1 true zs).nv 1 := by
              have h := hbd 1 (by decide) (by decide)
              have h4 := h.2.2.1 (by decide)
              rw [dP_nv 1 true zs 1 (by decide) (by decide), IntKind.wrap_i64]; omega
            have x2 : IntKind.i64.wrap ((dP 1 true zs).nv 2) = (dP 1 true zs).nv 2 := by
              have h := hbd 2 (by decide) (by decide)
              have h4 := h.2.2.1 (by decide)
              rw [dP_nv 1 true zs 2 (by decide) (by decide), IntKind.wrap_i64]; omega
            have x3 : IntKind.i64.wrap ((dP 1 true zs).nv 3) = (dP 1 true zs).nv 3 := by
              have h := hbd 3 (by decide) (by decide)
              have h4 := h.2.2.1 (by decide)
              rw [dP_nv 1 true zs 3 (by decide) (by decide), IntKind.wrap_i64]; omega
            have x4 : IntKind.i64.wrap ((dP 1 true zs).nv 4) = (dP 1 true zs).nv 4 := by
              have h := hbd 4 (by decide) (by decide)
              have h4 := h.2.2.1 (by decide)
              rw [dP_nv 1 true zs 4 (by decide) (by decide), IntKind.wrap_i64]; omega
            have x5 : IntKind.u32.wrap ((dP 1 true zs).nv 5) = (dP 1 true zs).nv 5 := by
              have h := hbd 5 (by decide) (by decide)
              have h4 := h.2.2.1 (by decide)
              rw [dP_nv 1 true zs 5 (by decide) (by decide), IntKind.wrap_u32]; omega
            have x7 : IntKind.u32.wrap ((dP 1 true zs).nv 7) = (dP 1 true zs).nv 7 := by
              have h := hbd 7 (by decide) (by decide)
              have h4 := h.2.2.1 (by decide)
              rw [dP_nv 1 true zs 7 (by decide) (by decide), IntKind.wrap_u32]; omega
            have x8 : IntKind.i64.wrap ((dP 1 true zs).nv 8) = (dP 1 true zs).nv 8 := by
              have h := hbd 8 (by decide) (by decide)
              have h4 := h.2.2.1 (by decide)
              rw [dP_nv 1 true zs 8 (by decide) (by decide), IntKind.wrap_i64]; omega
            have x9 : IntKind.i64.wrap ((dP 1 true zs).nv 9) = (dP 1 true zs).nv 9 := by
              have h := hbd 9 (by decide) (by decide)
              have h4 := h.2.2.1 (by decide)
              rw [dP_nv 1 true zs 9 (by decide) (by decide), IntKind.wrap_i64]; omega
            clear hbd
            have hok := dP_Ok 1 true zs HZ.out (.inl rfl)
            obtain ⟨hsl, hpl⟩ := sa_length 1 zs (.inl rfl) (by rw [HL.out]; rfl)
            have hs4 : (mo 1 / 4).toNat = 16 := rfl
            rw [hs4] at hsl hpl
            have H20 := TW.hide (fun Y (hbY : Below w.heap.size w Y) => rnormalP 1 (dP 1 true zs) hok (some ⟨b, off + 32, none⟩) (some ⟨b, off + 48, none⟩) (cap - 32) (cap - 48) (saL 1 zs) (peL 1 zs) Y
              ⟨(HRB.out Y (hB ▸ hbY)).sub 32 16 (by rw [HL.out]; decide), (fun h => by cases h), by rw [hsl]; decide, by rw [hsl]; have := HCAP.out; have := HL.out; omega, (HZ.out.drop _).take _⟩ ⟨(HRB.out Y (hB ▸ hbY)).sub 48 16 (by rw [HL.out]; decide), (fun h => by cases h), by rw [hpl]; decide, by rw [hpl]; have := HCAP.out; have := HL.out; omega, (HZ.out.drop _).take _⟩)
            rw [hsl, hpl, hB] at H20
            have HEQ : Hid ((mo 1 / 4).toNat = 16) := hs4
            clear hok hsl hpl hs4
            generalize hPP : (dP 1 true zs) = PP at *
            have HPP := TW.hide hPP
            clear hPP
            generalize hEE : PP.ck 1 16 16 = EE at *
            have HEE := TW.hide hEE
            clear hEE
            have H11 : Hid (∀ Y : World, Calls Try.prog 36 #[.int .i64 1] Y fun e w' => e = .returned (.int .i64 64) ∧ Y = w') := fun Y => rmost 1 Y
            refine wp_seq_k fun KK hK => ?_
            have HK := TW.hide hK
            clear hK
            go_wp2_with fail
            refine (H11.out _).mono ?_
            rintro e w2 ⟨rfl, rfl⟩
            go_wp2
            refine HK.out _ _ ?_
            clear HK KK H11
            have hcap : (64 : Int) ≤ (cap : Int) := by have := HCAP.out; have := HL.out; omega
            have w32 : IntKind.i64.wrap 32 = 32 := by rw [IntKind.wrap_i64]; rfl
            have l32 : (32 : Int) ≤ (cap : Int) := by omega
            have n32 : ¬ cap = 32 := by omega
            have w48 : IntKind.i64.wrap 48 = 48 := by rw [IntKind.wrap_i64]; rfl
            have l48 : (48 : Int) ≤ (cap : Int) := by omega
            have n48 : ¬ cap = 48 := by omega
            have w64 : IntKind.i64.wrap 64 = 64 := by rw [IntKind.wrap_i64]; rfl
            have l64 : (64 : Int) ≤ (cap : Int) := by omega
            refine wp_seq_k fun KK hKK => ?_
            have HKK := TW.hide hKK
            clear hKK
            refine wp_region_noPanic ?_
            refine RG.wp_region_L (fun Z => True) (fun Z => (∀ i : Nat, 1 ≤ i → i ≤ 9 → Z.cell? ⟨g, i, none⟩ = some (.int .u64 (PP.nv i))) ∧ Z.heap[B]? = some (.cells (pcP Pm.zero (.slice none 0 0) (.slice none 0 0)) 26 (0, 0)) ∧ Below B w Z ∧ g < Z.heap.size) [] (by kernel_rfl) ?_
            have HT0 : Hid ((∀ i : Nat, 1 ≤ i → i ≤ 9 → Y1.drew.cell? ⟨g, i, none⟩ = some (.int .u64 (PP.nv i))) ∧ Y1.drew.heap[B]? = some (.cells (pcP Pm.zero (.slice none 0 0) (.slice none 0 0)) 26 (0, 0)) ∧ Below B w Y1.drew ∧ g < Y1.drew.heap.size) := ⟨HV.out, N0.out, below_drewN NB.out 1, blk_lt_cell (HV.out 1 (by decide) (by decide))⟩
            clear HV N0 NB
            generalize Y1.drew = Y2 at *
            refine RG.wpL_take (fuel := 2) (a' := ?Atrue) [0, 1, 2, 3, 4, 5, 6, 7, 8, 9, 10, 11, 12, 13, 14, 15, 16, 17, 18, 19, 20, 21, 22, 23, 24, 25, 26, 27, 28, 29, 30, 31, 32, 33, 34, 35, 36, 37, 38, 39, 40, 41, 42, 43, 44, 45, 46, 47] (by kernel_rfl) (by kernel_rfl) (fun _ _ _ _ _ h => h) HT0.out (fun _ => trivial) ?rtrue ?_
            case rtrue =>
              refine RG.RunsIf.weak (v := ?_) (by rfl) (by rfl) (fun Z hT => ?_) ?_
              rotate_left
              · skip
                go_simp
                rfl
              simp only [Act.put, List.setIfInBounds_toArray, List.set_cons_zero, List.set_cons_succ, List.getElem_toArray, List.getElem_cons_zero, List.getElem_cons_succ]
              refine RG.RunsIf.weak (v := ?_) (by rfl) (by rfl) (fun Z hT => ?_) ?_
              rotate_left
              · skip
                go_simp
                rfl
              simp only [Act.put, List.setIfInBounds_toArray, List.set_cons_zero, List.set_cons_succ, List.getElem_toArray, List.getElem_cons_zero, List.getElem_cons_succ]
              refine RG.RunsIf.weak (v := ?_) (by rfl) (by rfl) (fun Z hT => ?_) ?_
              rotate_left
              · have c : Z.cell? ⟨g, 1, none⟩ = some (.int .u64 PP.d) := hT.1 1 (by decide) (by decide)
                go_simp
                rfl
              simp only [Act.put, List.setIfInBounds_toArray, List.set_cons_zero, List.set_cons_succ, List.getElem_toArray, List.getElem_cons_zero, List.getElem_cons_succ]
              refine RG.RunsIf.weak (v := ?_) (by rfl) (by rfl) (fun Z hT => ?_) ?_
              rotate_left
              · skip
                go_simp
                rfl
              simp only [Act.put, List.setIfInBounds_toArray, List.set_cons_zero, List.set_cons_succ, List.getElem_toArray, List.getElem_cons_zero, List.getElem_cons_succ]
              refine RG.RunsIf.weak (v := ?_) (by rfl) (by rfl) (fun Z hT => ?_) ?_
              rotate_left
              · skip
                go_simp
                rfl
              simp only [Act.put, List.setIfInBounds_toArray, List.set_cons_zero, List.set_cons_succ, List.getElem_toArray, List.getElem_cons_zero, List.getElem_cons_succ]
              refine RG.RunsIf.weak (v := ?_) (by rfl) (by rfl) (fun Z hT => ?_) ?_
              rotate_left
              · skip
                go_simp
                rfl
              simp only [Act.put, List.setIfInBounds_toArray, List.set_cons_zero, List.set_cons_succ, List.getElem_toArray, List.getElem_cons_zero, List.getElem_cons_succ]
              refine RG.RunsIf.weak (v := ?_) (by rfl) (by rfl) (fun Z hT => ?_) ?_
              rotate_left
              · have c : Z.cell? ⟨g, 2, none⟩ = some (.int .u64 PP.k) := hT.1 2 (by decide) (by decide)
                go_simp
                rfl
              simp only [Act.put, List.setIfInBounds_toArray, List.set_cons_zero, List.set_cons_succ, List.getElem_toArray, List.getElem_cons_zero, List.getElem_cons_succ]
              refine RG.RunsIf.weak (v := ?_) (by rfl) (by rfl) (fun Z hT => ?_) ?_
              rotate_left
              · skip
                go_simp
                rfl
              simp only [Act.put, List.setIfInBounds_toArray, List.set_cons_zero, List.set_cons_succ, List.getElem_toArray, List.getElem_cons_zero, List.getElem_cons_succ]
              refine RG.RunsIf.weak (v := ?_) (by rfl) (by rfl) (fun Z hT => ?_) ?_
              rotate_left
              · skip
                go_simp
                rfl
              simp only [Act.put, List.setIfInBounds_toArray, List.set_cons_zero, List.set_cons_succ, List.getElem_toArray, List.getElem_cons_zero, List.getElem_cons_succ]
              refine RG.RunsIf.weak (v := ?_) (by rfl) (by rfl) (fun Z hT => ?_) ?_
              rotate_left
              · skip
                go_simp
                rfl
              simp only [Act.put, List.setIfInBounds_toArray, List.set_cons_zero, List.set_cons_succ, List.getElem_toArray, List.getElem_cons_zero, List.getElem_cons_succ]
              refine RG.RunsIf.weak (v := ?_) (by rfl) (by rfl) (fun Z hT => ?_) ?_
              rotate_left
              · have c : Z.cell? ⟨g, 3, none⟩ = some (.int .u64 PP.f) := hT.1 3 (by decide) (by decide)
                go_simp
                rfl
              simp only [Act.put, List.setIfInBounds_toArray, List.set_cons_zero, List.set_cons_succ, List.getElem_toArray, List.getElem_cons_zero, List.getElem_cons_succ]
              refine RG.RunsIf.weak (v := ?_) (by rfl) (by rfl) (fun Z hT => ?_) ?_
              rotate_left
              · skip
                go_simp
                rfl
              simp only [Act.put, List.setIfInBounds_toArray, List.set_cons_zero, List.set_cons_succ, List.getElem_toArray, List.getElem_cons_zero, List.getElem_cons_succ]
              refine RG.RunsIf.weak (v := ?_) (by rfl) (by rfl) (fun Z hT => ?_) ?_
              rotate_left
              · skip
                go_simp
                rfl
              simp only [Act.put, List.setIfInBounds_toArray, List.set_cons_zero, List.set_cons_succ, List.getElem_toArray, List.getElem_cons_zero, List.getElem_cons_succ]
              refine RG.RunsIf.weak (v := ?_) (by rfl) (by rfl) (fun Z hT => ?_) ?_
              rotate_left
              · skip
                go_simp
                rfl
              simp only [Act.put, List.setIfInBounds_toArray, List.set_cons_zero, List.set_cons_succ, List.getElem_toArray, List.getElem_cons_zero, List.getElem_cons_succ]
              refine RG.RunsIf.weak (v := ?_) (by rfl) (by rfl) (fun Z hT => ?_) ?_
              rotate_left
              · have c : Z.cell? ⟨g, 4, none⟩ = some (.int .u64 PP.dp) := hT.1 4 (by decide) (by decide)
                go_simp
                rfl
              simp only [Act.put, List.setIfInBounds_toArray, List.set_cons_zero, List.set_cons_succ, List.getElem_toArray, List.getElem_cons_zero, List.getElem_cons_succ]
              refine RG.RunsIf.weak (v := ?_) (by rfl) (by rfl) (fun Z hT => ?_) ?_
              rotate_left
              · skip
                go_simp
                rfl
              simp only [Act.put, List.setIfInBounds_toArray, List.set_cons_zero, List.set_cons_succ, List.getElem_toArray, List.getElem_cons_zero, List.getElem_cons_succ]
              refine RG.RunsIf.weak (v := ?_) (by rfl) (by rfl) (fun Z hT => ?_) ?_
              rotate_left
              · skip
                go_simp
                rfl
              simp only [Act.put, List.setIfInBounds_toArray, List.set_cons_zero, List.set_cons_succ, List.getElem_toArray, List.getElem_cons_zero, List.getElem_cons_succ]
              refine RG.RunsIf.weak (v := ?_) (by rfl) (by rfl) (fun Z hT => ?_) ?_
              rotate_left
              · skip
                go_simp
                rfl
              simp only [Act.put, List.setIfInBounds_toArray, List.set_cons_zero, List.set_cons_succ, List.getElem_toArray, List.getElem_cons_zero, List.getElem_cons_succ]
              refine RG.RunsIf.weak (v := ?_) (by rfl) (by rfl) (fun Z hT => ?_) ?_
              rotate_left
              · have c : Z.cell? ⟨g, 5, none⟩ = some (.int .u64 PP.lf) := hT.1 5 (by decide) (by decide)
                go_simp
                rfl
              simp only [Act.put, List.setIfInBounds_toArray, List.set_cons_zero, List.set_cons_succ, List.getElem_toArray, List.getElem_cons_zero, List.getElem_cons_succ]
              refine RG.RunsIf.weak (v := ?_) (by rfl) (by rfl) (fun Z hT => ?_) ?_
              rotate_left
              · skip
                go_simp
                rfl
              simp only [Act.put, List.setIfInBounds_toArray, List.set_cons_zero, List.set_cons_succ, List.getElem_toArray, List.getElem_cons_zero, List.getElem_cons_succ]
              refine RG.RunsIf.weak (v := ?_) (by rfl) (by rfl) (fun Z hT => ?_) ?_
              rotate_left
              · skip
                go_simp
                rfl
              simp only [Act.put, List.setIfInBounds_toArray, List.set_cons_zero, List.set_cons_succ, List.getElem_toArray, List.getElem_cons_zero, List.getElem_cons_succ]
              refine RG.RunsIf.weak (v := ?_) (by rfl) (by rfl) (fun Z hT => ?_) ?_
              rotate_left
              · skip
                go_simp
                rfl
              simp only [Act.put, List.setIfInBounds_toArray, List.set_cons_zero, List.set_cons_succ, List.getElem_toArray, List.getElem_cons_zero, List.getElem_cons_succ]
              refine RG.RunsIf.weak (v := ?_) (by rfl) (by rfl) (fun Z hT => ?_) ?_
              rotate_left
              · have c : Z.cell? ⟨g, 6, none⟩ = some (.int .u64 PP.off) := hT.1 6 (by decide) (by decide)
                go_simp
                rfl
              simp only [Act.put, List.setIfInBounds_toArray, List.set_cons_zero, List.set_cons_succ, List.getElem_toArray, List.getElem_cons_zero, List.getElem_cons_succ]
              refine RG.RunsIf.weak (v := ?_) (by rfl) (by rfl) (fun Z hT => ?_) ?_
              rotate_left
              · skip
                go_simp
                rfl
              simp only [Act.put, List.setIfInBounds_toArray, List.set_cons_zero, List.set_cons_succ, List.getElem_toArray, List.getElem_cons_zero, List.getElem_cons_succ]
              refine RG.RunsIf.weak (v := ?_) (by rfl) (by rfl) (fun Z hT => ?_) ?_
              rotate_left
              · skip
                go_simp
                rfl
              simp only [Act.put, List.setIfInBounds_toArray, List.set_cons_zero, List.set_cons_succ, List.getElem_toArray, List.getElem_cons_zero, List.getElem_cons_succ]
              refine RG.RunsIf.weak (v := ?_) (by rfl) (by rfl) (fun Z hT => ?_) ?_
              rotate_left
              · have c : Z.cell? ⟨g, 7, none⟩ = some (.int .u64 PP.xof) := hT.1 7 (by decide) (by decide)
                go_simp
                rfl
              simp only [Act.put, List.setIfInBounds_toArray, List.set_cons_zero, List.set_cons_succ, List.getElem_toArray, List.getElem_cons_zero, List.getElem_cons_succ]
              refine RG.RunsIf.weak (v := ?_) (by rfl) (by rfl) (fun Z hT => ?_) ?_
              rotate_left
              · skip
                go_simp
                rfl
              simp only [Act.put, List.setIfInBounds_toArray, List.set_cons_zero, List.set_cons_succ, List.getElem_toArray, List.getElem_cons_zero, List.getElem_cons_succ]
              refine RG.RunsIf.weak (v := ?_) (by rfl) (by rfl) (fun Z hT => ?_) ?_
              rotate_left
              · skip
                go_simp
                rfl
              simp only [Act.put, List.setIfInBounds_toArray, List.set_cons_zero, List.set_cons_succ, List.getElem_toArray, List.getElem_cons_zero, List.getElem_cons_succ]
              refine RG.RunsIf.weak (v := ?_) (by rfl) (by rfl) (fun Z hT => ?_) ?_
              rotate_left
              · skip
                go_simp
                rfl
              simp only [Act.put, List.setIfInBounds_toArray, List.set_cons_zero, List.set_cons_succ, List.getElem_toArray, List.getElem_cons_zero, List.getElem_cons_succ]
              refine RG.RunsIf.weak (v := ?_) (by rfl) (by rfl) (fun Z hT => ?_) ?_
              rotate_left
              · have c : Z.cell? ⟨g, 8, none⟩ = some (.int .u64 PP.nd) := hT.1 8 (by decide) (by decide)
                go_simp
                rfl
              simp only [Act.put, List.setIfInBounds_toArray, List.set_cons_zero, List.set_cons_succ, List.getElem_toArray, List.getElem_cons_zero, List.getElem_cons_succ]
              refine RG.RunsIf.weak (v := ?_) (by rfl) (by rfl) (fun Z hT => ?_) ?_
              rotate_left
              · skip
                go_simp
                rfl
              simp only [Act.put, List.setIfInBounds_toArray, List.set_cons_zero, List.set_cons_succ, List.getElem_toArray, List.getElem_cons_zero, List.getElem_cons_succ]
              refine RG.RunsIf.weak (v := ?_) (by rfl) (by rfl) (fun Z hT => ?_) ?_
              rotate_left
              · skip
                go_simp
                rfl
              simp only [Act.put, List.setIfInBounds_toArray, List.set_cons_zero, List.set_cons_succ, List.getElem_toArray, List.getElem_cons_zero, List.getElem_cons_succ]
              refine RG.RunsIf.weak (v := ?_) (by rfl) (by rfl) (fun Z hT => ?_) ?_
              rotate_left
              · skip
                go_simp
                rfl
              simp only [Act.put, List.setIfInBounds_toArray, List.set_cons_zero, List.set_cons_succ, List.getElem_toArray, List.getElem_cons_zero, List.getElem_cons_succ]
              refine RG.RunsIf.weak (v := ?_) (by rfl) (by rfl) (fun Z hT => ?_) ?_
              rotate_left
              · have c : Z.cell? ⟨g, 9, none⟩ = some (.int .u64 PP.inn) := hT.1 9 (by decide) (by decide)
                go_simp
                rfl
              simp only [Act.put, List.setIfInBounds_toArray, List.set_cons_zero, List.set_cons_succ, List.getElem_toArray, List.getElem_cons_zero, List.getElem_cons_succ]
              refine RG.RunsIf.weak (v := ?_) (by rfl) (by rfl) (fun Z hT => ?_) ?_
              rotate_left
              · skip
                go_simp
                rfl
              simp only [Act.put, List.setIfInBounds_toArray, List.set_cons_zero, List.set_cons_succ, List.getElem_toArray, List.getElem_cons_zero, List.getElem_cons_succ]
              refine RG.RunsIf.weak (v := ?_) (by rfl) (by rfl) (fun Z hT => ?_) ?_
              rotate_left
              · skip
                go_simp
                rfl
              simp only [Act.put, List.setIfInBounds_toArray, List.set_cons_zero, List.set_cons_succ, List.getElem_toArray, List.getElem_cons_zero, List.getElem_cons_succ]
              refine RG.RunsIf.weak (v := ?_) (by rfl) (by rfl) (fun Z hT => ?_) ?_
              rotate_left
              · skip
                go_simp
                rfl
              simp only [Act.put, List.setIfInBounds_toArray, List.set_cons_zero, List.set_cons_succ, List.getElem_toArray, List.getElem_cons_zero, List.getElem_cons_succ]
              refine RG.RunsIf.weak (v := ?_) (by rfl) (by rfl) (fun Z hT => ?_) ?_
              rotate_left
              · skip
                go_simp
                rfl
              simp only [Act.put, List.setIfInBounds_toArray, List.set_cons_zero, List.set_cons_succ, List.getElem_toArray, List.getElem_cons_zero, List.getElem_cons_succ]
              refine RG.RunsIf.weak (v := ?_) (by rfl) (by rfl) (fun Z hT => ?_) ?_
              rotate_left
              · skip
                go_simp
                rfl
              simp only [Act.put, List.setIfInBounds_toArray, List.set_cons_zero, List.set_cons_succ, List.getElem_toArray, List.getElem_cons_zero, List.getElem_cons_succ]
              refine RG.RunsIf.weak (v := ?_) (by rfl) (by rfl) (fun Z hT => ?_) ?_
              rotate_left
              · skip
                go_simp
                rfl
              simp only [Act.put, List.setIfInBounds_toArray, List.set_cons_zero, List.set_cons_succ, List.getElem_toArray, List.getElem_cons_zero, List.getElem_cons_succ]
              refine RG.RunsIf.weak (v := ?_) (by rfl) (by rfl) (fun Z hT => ?_) ?_
              rotate_left
              · skip
                go_simp
                rfl
              simp only [Act.put, List.setIfInBounds_toArray, List.set_cons_zero, List.set_cons_succ, List.getElem_toArray, List.getElem_cons_zero, List.getElem_cons_succ]
              refine RG.RunsIf.weak (v := ?_) (by rfl) (by rfl) (fun Z hT => ?_) ?_
              rotate_left
              · skip
                go_simp
                rfl
              simp only [Act.put, List.setIfInBounds_toArray, List.set_cons_zero, List.set_cons_succ, List.getElem_toArray, List.getElem_cons_zero, List.getElem_cons_succ]
              refine RG.RunsIf.weak (v := ?_) (by rfl) (by rfl) (fun Z hT => ?_) ?_
              rotate_left
              · skip
                go_simp
                rfl
              simp only [Act.put, List.setIfInBounds_toArray, List.set_cons_zero, List.set_cons_succ, List.getElem_toArray, List.getElem_cons_zero, List.getElem_cons_succ]
              refine RG.RunsIf.weak (v := ?_) (by rfl) (by rfl) (fun Z hT => ?_) ?_
              rotate_left
              · skip
                go_simp
                rfl
              simp only [Act.put, List.setIfInBounds_toArray, List.set_cons_zero, List.set_cons_succ, List.getElem_toArray, List.getElem_cons_zero, List.getElem_cons_succ]
              refine RG.RunsIf.weak (v := ?_) (by rfl) (by rfl) (fun Z hT => ?_) ?_
              rotate_left
              · skip
                go_simp
                rfl
              simp only [Act.put, List.setIfInBounds_toArray, List.set_cons_zero, List.set_cons_succ, List.getElem_toArray, List.getElem_cons_zero, List.getElem_cons_succ]
              refine RG.RunsIf.weak (v := ?_) (by rfl) (by rfl) (fun Z hT => ?_) ?_
              rotate_left
              · skip
                go_simp
                rfl
              simp only [Act.put, List.setIfInBounds_toArray, List.set_cons_zero, List.set_cons_succ, List.getElem_toArray, List.getElem_cons_zero, List.getElem_cons_succ]
              refine RG.RunsIf.weak (v := ?_) (by rfl) (by rfl) (fun Z hT => ?_) ?_
              rotate_left
              · skip
                go_simp
                rfl
              simp only [Act.put, List.setIfInBounds_toArray, List.set_cons_zero, List.set_cons_succ, List.getElem_toArray, List.getElem_cons_zero, List.getElem_cons_succ]
              refine RG.RunsIf.weak (v := ?_) (by rfl) (by rfl) (fun Z hT => ?_) ?_
              rotate_left
              · skip
                go_simp
                rfl
              simp only [Act.put, List.setIfInBounds_toArray, List.set_cons_zero, List.set_cons_succ, List.getElem_toArray, List.getElem_cons_zero, List.getElem_cons_succ]
              exact RG.RunsIf.nil
            refine RG.wpL_step (i := 48) (by kernel_rfl) (by rfl) (by rfl) (fun K hK => ?_)
            have HK := TW.hide hK
            clear hK
            go_simp
            have hn := heap_new Y2 (.cells #[.int .i64 0, .int .i64 0, .int .i64 0, .int .i64 0, .int .u32 0, .int .u64 0, .int .u32 0, .int .i64 0, .int .i64 0, .slice none 0 0, .slice none 0 0] 26)
            have ba := (Below.refl Y2.heap.size Y2).alloc (Nat.le_refl _) (.cells #[.int .i64 0, .int .i64 0, .int .i64 0, .int .i64 0, .int .u32 0, .int .u64 0, .int .u32 0, .int .i64 0, .int .i64 0, .slice none 0 0, .slice none 0 0] 26)
            have HT1 : Hid ((∀ i : Nat, 1 ≤ i → i ≤ 9 → (Y2.alloc (.cells #[.int .i64 0, .int .i64 0, .int .i64 0, .int .i64 0, .int .u32 0, .int .u64 0, .int .u32 0, .int .i64 0, .int .i64 0, .slice none 0 0, .slice none 0 0] 26)).cell? ⟨g, i, none⟩ = some (.int .u64 (PP.nv i))) ∧ (Y2.alloc (.cells #[.int .i64 0, .int .i64 0, .int .i64 0, .int .i64 0, .int .u32 0, .int .u64 0, .int .u32 0, .int .i64 0, .int .i64 0, .slice none 0 0, .slice none 0 0] 26)).heap[B]? = some (.cells (pcP Pm.zero (.slice none 0 0) (.slice none 0 0)) 26 (0, 0)) ∧ Below B w (Y2.alloc (.cells #[.int .i64 0, .int .i64 0, .int .i64 0, .int .i64 0, .int .u32 0, .int .u64 0, .int .u32 0, .int .i64 0, .int .i64 0, .slice none 0 0, .slice none 0 0] 26)) ∧ g < (Y2.alloc (.cells #[.int .i64 0, .int .i64 0, .int .i64 0, .int .i64 0, .int .u32 0, .int .u64 0, .int .u32 0, .int .i64 0, .int .i64 0, .slice none 0 0, .slice none 0 0] 26)).heap.size) := ⟨fun i h1 h9 => by rw [ba.cell HT0.out.2.2.2]; exact HT0.out.1 i h1 h9, blk_keep HT0.out.2.1 ba, below_row HT0.out.2.2.1 ba (by have := blk_lt HT0.out.2.1; omega), by simp; have := HT0.out.2.2.2; omega⟩
            refine HK.out _ _ HT1.out (fun _ => trivial) ?_
            clear HK K ba
            have hBh : B < Y2.heap.size := blk_lt HT0.out.2.1
            have hgh : g < Y2.heap.size := HT0.out.2.2.2
            clear HT0
            generalize Y2.alloc (.cells #[.int .i64 0, .int .i64 0, .int .i64 0, .int .i64 0, .int .u32 0, .int .u64 0, .int .u32 0, .int .i64 0, .int .i64 0, .slice none 0 0, .slice none 0 0] 26) = Y3 at *
            have HN := TW.hide hn
            clear hn
            generalize Y2.heap.size = h at *
            refine RG.wpL_step (i := 49) (by kernel_rfl) (by rfl) (by rfl) (fun K hK => ?_)
            have HK := TW.hide hK
            clear hK
            refine wp_store_row 26 _ _ (by rfl) h (pcP PP (.slice (some ⟨b, off + 32, none⟩) 16 (cap - 32)) (.slice (some ⟨b, off + 48, none⟩) 16 (cap - 48))) (by rfl) (by rfl) 26 _ HN.out (info31 _ _ _) (pc_size Pm.zero _ _ _ _ _) (pc_one _ _ _ _ _ _ _) ?_
            have HT2 : Hid ((∀ i : Nat, 1 ≤ i → i ≤ 9 → (Y3.setRow h (pcP PP (.slice (some ⟨b, off + 32, none⟩) 16 (cap - 32)) (.slice (some ⟨b, off + 48, none⟩) 16 (cap - 48)))).cell? ⟨g, i, none⟩ = some (.int .u64 (PP.nv i))) ∧ (Y3.setRow h (pcP PP (.slice (some ⟨b, off + 32, none⟩) 16 (cap - 32)) (.slice (some ⟨b, off + 48, none⟩) 16 (cap - 48)))).heap[B]? = some (.cells (pcP Pm.zero (.slice none 0 0) (.slice none 0 0)) 26 (0, 0)) ∧ Below B w (Y3.setRow h (pcP PP (.slice (some ⟨b, off + 32, none⟩) 16 (cap - 32)) (.slice (some ⟨b, off + 48, none⟩) 16 (cap - 48)))) ∧ g < (Y3.setRow h (pcP PP (.slice (some ⟨b, off + 32, none⟩) 16 (cap - 32)) (.slice (some ⟨b, off + 48, none⟩) 16 (cap - 48)))).heap.size) := ⟨fun i h1 h9 => by rw [cell_setRow_other (by omega)]; exact HT1.out.1 i h1 h9, by rw [setRow_other _ _ _ _ (by omega)]; exact HT1.out.2.1, below_setRow HT1.out.2.2.1 (by omega), by simpa using HT1.out.2.2.2⟩
            have NH : Hid ((Y3.setRow h (pcP PP (.slice (some ⟨b, off + 32, none⟩) 16 (cap - 32)) (.slice (some ⟨b, off + 48, none⟩) 16 (cap - 48)))).heap[h]? = some (.cells (pcP PP (.slice (some ⟨b, off + 32, none⟩) 16 (cap - 32)) (.slice (some ⟨b, off + 48, none⟩) 16 (cap - 48))) 26 (0, 0))) := setRow_heap _ _ _ _ _ _ HN.out
            refine HK.out _ _ HT2.out (fun _ => trivial) ?_
            clear HK K HT1 HN
            generalize Y3.setRow h (pcP PP (.slice (some ⟨b, off + 32, none⟩) 16 (cap - 32)) (.slice (some ⟨b, off + 48, none⟩) 16 (cap - 48))) = Y4 at *
            refine RG.wpL_done (by kernel_rfl) ?_ _
            refine NoPanic.normal ?_
            refine HKK.out _ _ ?_
            clear HKK KK
            go_wp2_with (refine wpList_load_row (by rfl) 26 _ (by rfl) (h) (by rfl) 26 (pcP PP (.slice (some ⟨b, off + 32, none⟩) 16 (cap - 32)) (.slice (some ⟨b, off + 48, none⟩) 16 (cap - 48))) (0, 0) _ NH.out Try.underlying26 rfl (info31 _ _ _) ?_)
            refine (H20.out _ HT2.out.2.2.1).mono ?_
            rintro e w9 ⟨u, v, rfl, ou, ov, hb9⟩
            have hsz := blk_lt HT2.out.2.1
            have M0 := TW.hide (blk_keep HT2.out.2.1 hb9)
            have MB : Hid (Below B w w9) := below_row HT2.out.2.2.1 hb9 (by omega)
            obtain ⟨ua, uc, rfl⟩ := own_form ou
            obtain ⟨va, vc, rfl⟩ := own_form ov
            have OU := TW.hide (own_mono' (own_setRow (cs := pcP (nP EE PP) (.slice ua (nS EE (saL 1 zs)).length uc) (.slice va (nS EE (peL 1 zs)).length vc)) ou hsz) (show B ≤ Y4.heap.size by omega))
            have OV := TW.hide (own_mono' (own_setRow (cs := pcP (nP EE PP) (.slice ua (nS EE (saL 1 zs)).length uc) (.slice va (nS EE (peL 1 zs)).length vc)) ov hsz) (show B ≤ Y4.heap.size by omega))
            clear hb9 NH HT2 ou ov
            go_wp2_with (refine wpList_store_row (by rfl) 26 _ _ (by rfl) (B) (pcP (nP EE PP) (.slice ua (nS EE (saL 1 zs)).length uc) (.slice va (nS EE (peL 1 zs)).length vc)) (by rfl) (by rfl) 26 _ M0.out (info31 _ _ _) (pc_size _ _ _ _ _ _) (pc_one _ _ _ _ _ _ _) ?_)
            refine bodyPost_ret (v := .tuple #[.agg (pcP (nP EE PP) (.slice ua (nS EE (saL 1 zs)).length uc) (.slice va (nS EE (peL 1 zs)).length vc)), .int .i64 EE]) (results_row_tmp (P := Try.prog) Try.results13 _ _ B 26 _ (0, 0) _ _ (by rfl) (by rfl) (setRow_heap _ _ _ _ _ _ M0.out) Try.underlying26 rfl (info31 _ _ _)) rfl ?_
            have e1 := HEE.out
            have e2 := HPP.out
            subst e1 e2
            rw [HEQ.out]
            exact ⟨_, _, rfl, OU.out, OV.out, below_setRow MB.out (Nat.le_refl _)⟩
set_option maxRecDepth 100000 in
set_option maxHeartbeats 8000000 in
theorem rdecXof2 (x : Bool) (b off cap : Nat) (zs : List Int) (w : World) (hcl : cl 2 zs.length = 0) (hz : Byt zs) (hr : Row w (some ⟨b, off, none⟩) zs) (hc : zs.length ≤ cap) (hxx : x = true ∧ ((dP 2 x zs).xof == 0) = true) :
    Calls Try.prog 13 #[.int .i64 2, (.slice (some ⟨b, off, none⟩) zs.length cap), .bool x] w fun e w' => e = .returned (.tuple #[.agg (pcP Pm.zero (.slice none 0 0) (.slice none 0 0)), .int .i64 24]) ∧ Below w.heap.size w w' := by
  obtain ⟨i0, hi, hz0, hz1, hz2⟩ := info_parts info28
  have H57 : Hid (∀ W : World, Calls Try.prog 37 #[.int .i64 2, (.slice (some ⟨b, off, none⟩) zs.length cap)] W fun e w' => e = .returned (.int .i64 0) ∧ W = w') := fun W => by
    have := sized 2 (some ⟨b, off, none⟩) zs.length cap W
    rwa [hcl] at this
  obtain ⟨_, hlen⟩ := cl_zero hcl
  have hb := ((Below.refl w.heap.size w).alloc (Nat.le_refl _) (.cells (pcP Pm.zero (.slice none 0 0) (.slice none 0 0)) 26))
  have n0 := (heap_new w (.cells (pcP Pm.zero (.slice none 0 0) (.slice none 0 0)) 26))
  have hl64 : zs.length = 32 := by have : mo 2 = 32 := rfl; omega
  have hk : (2 : Int) = 1 ∨ (2 : Int) = 2 := by decide
  have hcell : ∀ i, i < 32 → (w.alloc (.cells (pcP Pm.zero (.slice none 0 0) (.slice none 0 0)) 26)).cell? ⟨b, off + i, none⟩ = some (.int .u8 (zs.getD i 0)) := fun i hi => by
    rcases hr.below hb with h | ⟨b', off', e, h⟩
    · subst h; simp at hl64
    · cases e; exact h i (by omega)
  have H50 : Hid (∀ (k : Nat) (Y : World), 1 ≤ k → k ≤ 9 → Calls Try.prog 34 #[.int .i64 2, .int .i64 k] Y fun e w' => e = .returned (.tuple #[.int .i64 (rAt 2 k), .int .i64 (rSz 2 k)]) ∧ Y = w') := fun k Y h1 h9 => by
    have := place 2 k Y hk
    rw [if_neg (by omega), if_neg (by omega)] at this
    exact this
  have H53 : Hid (∀ (k : Nat) (Y : World), 1 ≤ k → k ≤ 9 → Below (w.alloc (.cells (pcP Pm.zero (.slice none 0 0) (.slice none 0 0)) 26)).heap.size (w.alloc (.cells (pcP Pm.zero (.slice none 0 0) (.slice none 0 0)) 26)) Y → Calls Try.prog 38 #[(.slice (some ⟨b, off, none⟩) zs.length cap), .int .i64 (rAt 2 k), .int .i64 (rN 2 x k)] Y fun e w' => e = .returned (.int .u64 (rV 2 x zs k)) ∧ Y = w') := fun k Y h1 h9 hbY =>
    rfield 2 x k (some ⟨b, off, none⟩) cap zs Y hz ((hr.below hb).below hbY) (by rw [hl64]; simp [maxLen]) hk hlen (by omega) (by omega)
  have HK12 := TW.hide hk
  have HRB := TW.hide (fun Y (hbY : Below w.heap.size w Y) => hr.below hbY)
  have HZ := TW.hide hz
  have HCAP := TW.hide hc
  have HL := TW.hide hl64
  have HXX := TW.hide hxx
  rw [hl64] at H57 H53 ⊢
  clear hcl hz hr hc hlen hl64 hxx hk
  go_enter Try.func13, Try.ntmps13
  refine wp_seq_k fun K hK => ?_
  have HK := TW.hide hK
  clear hK
  go_wp2
  refine HK.out _ _ ?_
  clear HK K
  change Code.wp _ _ _ _ (w.alloc (.cells (pcP Pm.zero (.slice none 0 0) (.slice none 0 0)) 26))
  generalize w.alloc (.cells (pcP Pm.zero (.slice none 0 0) (.slice none 0 0)) 26) = W at hb n0 hcell H53 ⊢
  generalize hB : w.heap.size = B at *
  have M0 := TW.hide n0
  have MB := TW.hide hb
  have HCE := TW.hide hcell
  clear n0 hb hcell
  have h00 : ((0 : Int) != 0) = false := rfl
  go_wp2_with fail
  refine (H57.out _).mono ?_
  rintro e w1 ⟨rfl, rfl⟩
  go_wp2
  go_loop [9] (fun i => i = .int .i64 18) (fun i => 0)
  case atStart => rfl
  case round =>
    rename_i Q0 K0 a0 hw0
    subst hrel
    have HA := TW.hide a0
    clear a0 HCE
    go_wp2
    refine HA.out _ _ ?_
    clear HA
    refine wp_seq_k fun KK hK => ?_
    have HK := TW.hide hK
    clear hK
    go_wp2
    refine HK.out _ _ ?_
    clear HK KK
    have ow0 : (W.alloc (.cells #[.int .u64 0] 23)).ownsRow W.heap.size 23 1 (.slice (some ⟨W.heap.size, 0, none⟩) 1 1) 1 (us ((vL 2 x zs).take 1)) := one_own W
    have bw0 : Below W.heap.size W (W.alloc (.cells #[.int .u64 0] 23)) := (Below.refl _ _).alloc (Nat.le_refl _) _
    generalize Value.slice (some ⟨W.heap.size, 0, none⟩) 1 1 = v0 at *
    generalize W.alloc (.cells #[.int .u64 0] 23) = Y0 at *
    have OW := TW.hide ow0
    have BW := TW.hide bw0
    clear ow0 bw0
    go_wp2
    go_loopw [10, 11] (fun o i wr => ∃ k : Nat, 1 ≤ k ∧ k ≤ 10 ∧ i = .int .i64 k ∧ wr.ownsRow W.heap.size 23 1 o k (us ((vL 2 x zs).take k)) ∧ Below W.heap.size W wr) (fun _ i _ => 10 - (intOf i).toNat)
    case atStart => exact ⟨1, Nat.le_refl _, by omega, rfl, OW.out, BW.out⟩
    case round =>
      rename_i Q1 K1 a1
      obtain ⟨k, hk1, hk10, rfl, hown, hbel⟩ := hrel
      clear OW BW
      by_cases hlt : k < 10
      · have hsn := take_snoc (vL 2 x zs) k (by simp [vL]; omega)
        rw [vL_get 2 x zs k hk1 (by omega)] at hsn
        have c50 := TW.hide (fun Y => H50.out k Y hk1 (by omega))
        have c53 := TW.hide (fun Y hb => H53.out k Y hk1 (by omega) hb)
        have hrn : rN 2 x k = if (k : Int) = 6 ∧ x = true then 4 else rSz 2 k := rfl
        generalize rV 2 x zs k = vk at *
        generalize rAt 2 k = ra at *
        have HSN := TW.hide hsn
        have HB := TW.hide hbel
        clear hsn hbel
        have k9 : (k : Int) ≤ 9 := by omega
        by_cases h6 : k = 6
        · subst h6
          cases x
          · rw [if_neg (by simp)] at hrn
            rw [hrn] at c53
            generalize rSz 2 (6 : Nat) = rs at *
            have h66 : (((6 : Nat) : Int) == 6) = true := rfl
            go_wp2_with fail
            refine (c50.out _).mono ?_
            rintro e w1 ⟨rfl, rfl⟩
            go_wp2_with fail
            refine (c53.out _ HB.out).mono ?_
            rintro e w1 ⟨rfl, rfl⟩
            go_wp2_with (at_builtin; refine wpList_append_own _ rfl _ _ 69 rfl W.heap.size 23 i0 (.int .u64 0) 1 8 Try.underlying69 hi hz0 hz1 hz2 rfl (by decide) _ _ _ rfl (hown.alloc _) ⟨wr.heap.size, 0, none⟩ 1 1 [.int .u64 vk] rfl rfl ?c1 ?c2 ?c3 ?c4 ?c5 ?_)
            case c1 => exact one_new28 _ _
            case c2 => intro u hu; simp at hu; subst hu; rfl
            case c3 => unfold maxLen; omega
            case c4 => omega
            case c5 => have := HB.out.size; simp; omega
            intro v' w2 hown' hgrow' _
            have hbel2 : Below W.heap.size W w2 := (HB.out.alloc HB.out.size _).grown hgrow' (by have := HB.out.size; simp; omega) (own_block28 hown)
            have K1' := TW.hide hown'
            have K2' := TW.hide hbel2
            clear hown hown' hgrow' hbel2
            go_wp2
            (first | (go_roundw; case' rel => skip) | (refine ⟨?_, ?measure⟩; (repeat apply Exists.intro); refine ⟨?rel, rfl⟩))
            case rel => exact ⟨6 + 1, by omega, by omega, by go_num, by rw [HSN.out, us_append]; exact K1'.out, K2'.out⟩
            case measure => simp [intOf]; try omega
          · rw [if_pos (by simp)] at hrn
            rw [hrn] at c53
            generalize rSz 2 (6 : Nat) = rs at *
            have h66 : (((6 : Nat) : Int) == 6) = true := rfl
            go_wp2_with fail
            refine (c50.out _).mono ?_
            rintro e w1 ⟨rfl, rfl⟩
            go_wp2_with fail
            refine (c53.out _ HB.out).mono ?_
            rintro e w1 ⟨rfl, rfl⟩
            go_wp2_with (at_builtin; refine wpList_append_own _ rfl _ _ 69 rfl W.heap.size 23 i0 (.int .u64 0) 1 8 Try.underlying69 hi hz0 hz1 hz2 rfl (by decide) _ _ _ rfl (hown.alloc _) ⟨wr.heap.size, 0, none⟩ 1 1 [.int .u64 vk] rfl rfl ?c1 ?c2 ?c3 ?c4 ?c5 ?_)
            case c1 => exact one_new28 _ _
            case c2 => intro u hu; simp at hu; subst hu; rfl
            case c3 => unfold maxLen; omega
            case c4 => omega
            case c5 => have := HB.out.size; simp; omega
            intro v' w2 hown' hgrow' _
            have hbel2 : Below W.heap.size W w2 := (HB.out.alloc HB.out.size _).grown hgrow' (by have := HB.out.size; simp; omega) (own_block28 hown)
            have K1' := TW.hide hown'
            have K2' := TW.hide hbel2
            clear hown hown' hgrow' hbel2
            go_wp2
            (first | (go_roundw; case' rel => skip) | (refine ⟨?_, ?measure⟩; (repeat apply Exists.intro); refine ⟨?rel, rfl⟩))
            case rel => exact ⟨6 + 1, by omega, by omega, by go_num, by rw [HSN.out, us_append]; exact K1'.out, K2'.out⟩
            case measure => simp [intOf]; try omega
        · rw [if_neg (by omega)] at hrn
          rw [hrn] at c53
          generalize rSz 2 k = rs at *
          have h66 : ((k : Int) == 6) = false := by simp; omega
          go_wp2_with fail
          refine (c50.out _).mono ?_
          rintro e w1 ⟨rfl, rfl⟩
          go_wp2_with fail
          refine (c53.out _ HB.out).mono ?_
          rintro e w1 ⟨rfl, rfl⟩
          go_wp2_with (at_builtin; refine wpList_append_own _ rfl _ _ 69 rfl W.heap.size 23 i0 (.int .u64 0) 1 8 Try.underlying69 hi hz0 hz1 hz2 rfl (by decide) _ _ _ rfl (hown.alloc _) ⟨wr.heap.size, 0, none⟩ 1 1 [.int .u64 vk] rfl rfl ?c1 ?c2 ?c3 ?c4 ?c5 ?_)
          case c1 => exact one_new28 _ _
          case c2 => intro u hu; simp at hu; subst hu; rfl
          case c3 => unfold maxLen; omega
          case c4 => omega
          case c5 => have := HB.out.size; simp; omega
          intro v' w2 hown' hgrow' _
          have hbel2 : Below W.heap.size W w2 := (HB.out.alloc HB.out.size _).grown hgrow' (by have := HB.out.size; simp; omega) (own_block28 hown)
          have K1' := TW.hide hown'
          have K2' := TW.hide hbel2
          clear hown hown' hgrow' hbel2
          go_wp2
          (first | (go_roundw; case' rel => skip) | (refine ⟨?_, ?measure⟩; (repeat apply Exists.intro); refine ⟨?rel, rfl⟩))
          case rel => exact ⟨k + 1, by omega, by omega, by go_num, by rw [HSN.out, us_append]; exact K1'.out, K2'.out⟩
          case measure => simp [intOf]; try omega
      · obtain rfl : k = 10 := by omega
        have HA := TW.hide a1
        clear a1
        have hV10 : (vL 2 x zs).take 10 = (vL 2 x zs) := rfl
        rw [hV10] at hown
        obtain ⟨g, vc, rfl, hg, hgl, hfz, hcells⟩ := us_own hown (by simp [vL])
        have n0 : wr.heap[B]? = some (.cells (pcP Pm.zero (.slice none 0 0) (.slice none 0 0)) 26 (0, 0)) := by rw [hbel.block B (blk_lt M0.out)]; exact M0.out
        have hb : Below B w wr := MB.out.trans (hbel.mono (by have := blk_lt M0.out; omega))
        have hgB : B < g := by have := blk_lt M0.out; omega
        have N0 := TW.hide n0
        have NB := TW.hide hb
        have HC := TW.hide hcells
        clear n0 hb hown hbel hcells hV10
        rw [show (vL 2 x zs).length = 10 from rfl] at *
        go_wp2
        refine HA.out _ _ ?_
        clear HA H50 H53 M0 MB
        have f7 := hfz 7
        clear hfz
        have ex : x = true := HXX.out.1
        subst ex
        have c7 := HC.out 7 (by decide)
        rw [vL_get 2 true zs 7 (by decide) (by decide), rV_fV _ _ _ _ (.inr rfl), show fV 2 true zs ((7 : Nat) : Int) = 0 from by simpa [dP] using HXX.out.2] at c7
        have e00 : ((0 : Int) == 0) = true := rfl
        have M0 := N0
        have MB := NB
        clear N0 NB
        go_wp2_with (first | (refine wpList_store_row (by rfl) 26 _ _ (by rfl) (B) (pcP Pm.zero (.slice none 0 0) (.slice none 0 0)) (by rfl) (by rfl) 26 _ M0.out (info31 _ _ _) (pc_size _ _ _ _ _ _) (pc_one _ _ _ _ _ _ _) ?_))
        refine bodyPost_ret (v := .tuple #[.agg (pcP Pm.zero (.slice none 0 0) (.slice none 0 0)), .int .i64 24]) (results_row_tmp (P := Try.prog) Try.results13 _ _ B 26 _ (0, 0) _ _ (by rfl) (by rfl) (setRow_heap _ _ _ _ _ _ M0.out) Try.underlying26 rfl (info31 _ _ _)) rfl ?_
        exact ⟨rfl, below_setRow MB.out (Nat.le_refl _)⟩
set_option maxRecDepth 100000 in
set_option maxHeartbeats 8000000 in
theorem rdecOk2 (x : Bool) (b off cap : Nat) (zs : List Int) (w : World) (hcl : cl 2 zs.length = 0) (hz : Byt zs) (hr : Row w (some ⟨b, off, none⟩) zs) (hc : zs.length ≤ cap) (hxx : (x && ((dP 2 x zs).xof == 0)) = false) :
    Calls Try.prog 13 #[.int .i64 2, (.slice (some ⟨b, off, none⟩) zs.length cap), .bool x] w fun e w' => ∃ u v, e = .returned (.tuple #[.agg (pcP (nP ((dP 2 x zs).ck 2 (mo 2 / 4).toNat (mo 2 / 4).toNat) (dP 2 x zs)) u v), .int .i64 ((dP 2 x zs).ck 2 (mo 2 / 4).toNat (mo 2 / 4).toNat)]) ∧ w'.ownsRow w.heap.size 5 1 u (nS ((dP 2 x zs).ck 2 (mo 2 / 4).toNat (mo 2 / 4).toNat) (saL 2 zs)).length (vs (nS ((dP 2 x zs).ck 2 (mo 2 / 4).toNat (mo 2 / 4).toNat) (saL 2 zs))) ∧ w'.ownsRow w.heap.size 5 1 v (nS ((dP 2 x zs).ck 2 (mo 2 / 4).toNat (mo 2 / 4).toNat) (peL 2 zs)).length (vs (nS ((dP 2 x zs).ck 2 (mo 2 / 4).toNat (mo 2 / 4).toNat) (peL 2 zs))) ∧ Below w.heap.size w w' := by
  obtain ⟨i0, hi, hz0, hz1, hz2⟩ := info_parts info28
  have H57 : Hid (∀ W : World, Calls Try.prog 37 #[.int .i64 2, (.slice (some ⟨b, off, none⟩) zs.length cap)] W fun e w' => e = .returned (.int .i64 0) ∧ W = w') := fun W => by
    have := sized 2 (some ⟨b, off, none⟩) zs.length cap W
    rwa [hcl] at this
  obtain ⟨_, hlen⟩ := cl_zero hcl
  have hb := ((Below.refl w.heap.size w).alloc (Nat.le_refl _) (.cells (pcP Pm.zero (.slice none 0 0) (.slice none 0 0)) 26))
  have n0 := (heap_new w (.cells (pcP Pm.zero (.slice none 0 0) (.slice none 0 0)) 26))
  have hl64 : zs.length = 32 := by have : mo 2 = 32 := rfl; omega
  have hk : (2 : Int) = 1 ∨ (2 : Int) = 2 := by decide
  have hcell : ∀ i, i < 32 → (w.alloc (.cells (pcP Pm.zero (.slice none 0 0) (.slice none 0 0)) 26)).cell? ⟨b, off + i, none⟩ = some (.int .u8 (zs.getD i 0)) := fun i hi => by
    rcases hr.below hb with h | ⟨b', off', e, h⟩
    · subst h; simp at hl64
    · cases e; exact h i (by omega)
  have H50 : Hid (∀ (k : Nat) (Y : World), 1 ≤ k → k ≤ 9 → Calls Try.prog 34 #[.int .i64 2, .int .i64 k] Y fun e w' => e = .returned (.tuple #[.int .i64 (rAt 2 k), .int .i64 (rSz 2 k)]) ∧ Y = w') := fun k Y h1 h9 => by
    have := place 2 k Y hk
    rw [if_neg (by omega), if_neg (by omega)] at this
    exact this
  have H53 : Hid (∀ (k : Nat) (Y : World), 1 ≤ k → k ≤ 9 → Below (w.alloc (.cells (pcP Pm.zero (.slice none 0 0) (.slice none 0 0)) 26)).heap.size (w.alloc (.cells (pcP Pm.zero (.slice none 0 0) (.slice none 0 0)) 26)) Y → Calls Try.prog 38 #[(.slice (some ⟨b, off, none⟩) zs.length cap), .int .i64 (rAt 2 k), .int .i64 (rN 2 x k)] Y fun e w' => e = .returned (.int .u64 (rV 2 x zs k)) ∧ Y = w') := fun k Y h1 h9 hbY =>
    rfield 2 x k (some ⟨b, off, none⟩) cap zs Y hz ((hr.below hb).below hbY) (by rw [hl64]; simp [maxLen]) hk hlen (by omega) (by omega)
  have HK12 := TW.hide hk
  have HRB := TW.hide (fun Y (hbY : Below w.heap.size w Y) => hr.below hbY)
  have HZ := TW.hide hz
  have HCAP := TW.hide hc
  have HL := TW.hide hl64
  have HXX := TW.hide hxx
  rw [hl64] at H57 H53 ⊢
  clear hcl hz hr hc hlen hl64 hxx hk
  go_enter Try.func13, Try.ntmps13
  refine wp_seq_k fun K hK => ?_
  have HK := TW.hide hK
  clear hK
  go_wp2
  refine HK.out _ _ ?_
  clear HK K
  change Code.wp _ _ _ _ (w.alloc (.cells (pcP Pm.zero (.slice none 0 0) (.slice none 0 0)) 26))
  generalize w.alloc (.cells (pcP Pm.zero (.slice none 0 0) (.slice none 0 0)) 26) = W at hb n0 hcell H53 ⊢
  generalize hB : w.heap.size = B at *
  have M0 := TW.hide n0
  have MB := TW.hide hb
  have HCE := TW.hide hcell
  clear n0 hb hcell
  have h00 : ((0 : Int) != 0) = false := rfl
  go_wp2_with fail
  refine (H57.out _).mono ?_
  rintro e w1 ⟨rfl, rfl⟩
  go_wp2
  go_loop [9] (fun i => i = .int .i64 18) (fun i => 0)
  case atStart => rfl
  case round =>
    rename_i Q0 K0 a0 hw0
    subst hrel
    have HA := TW.hide a0
    clear a0 HCE
    go_wp2
    refine HA.out _ _ ?_
    clear HA
    refine wp_seq_k fun KK hK => ?_
    have HK := TW.hide hK
    clear hK
    go_wp2
    refine HK.out _ _ ?_
    clear HK KK
    have ow0 : (W.alloc (.cells #[.int .u64 0] 23)).ownsRow W.heap.size 23 1 (.slice (some ⟨W.heap.size, 0, none⟩) 1 1) 1 (us ((vL 2 x zs).take 1)) := one_own W
    have bw0 : Below W.heap.size W (W.alloc (.cells #[.int .u64 0] 23)) := (Below.refl _ _).alloc (Nat.le_refl _) _
    generalize Value.slice (some ⟨W.heap.size, 0, none⟩) 1 1 = v0 at *
    generalize W.alloc (.cells #[.int .u64 0] 23) = Y0 at *
    have OW := TW.hide ow0
    have BW := TW.hide bw0
    clear ow0 bw0
    go_wp2
    go_loopw [10, 11] (fun o i wr => ∃ k : Nat, 1 ≤ k ∧ k ≤ 10 ∧ i = .int .i64 k ∧ wr.ownsRow W.heap.size 23 1 o k (us ((vL 2 x zs).take k)) ∧ Below W.heap.size W wr) (fun _ i _ => 10 - (intOf i).toNat)
    case atStart => exact ⟨1, Nat.le_refl _, by omega, rfl, OW.out, BW.out⟩
    case round =>
      rename_i Q1 K1 a1
      obtain ⟨k, hk1, hk10, rfl, hown, hbel⟩ := hrel
      clear OW BW
      by_cases hlt : k < 10
      · have hsn := take_snoc (vL 2 x zs) k (by simp [vL]; omega)
        rw [vL_get 2 x zs k hk1 (by omega)] at hsn
        have c50 := TW.hide (fun Y => H50.out k Y hk1 (by omega))
        have c53 := TW.hide (fun Y hb => H53.out k Y hk1 (by omega) hb)
        have hrn : rN 2 x k = if (k : Int) = 6 ∧ x = true then 4 else rSz 2 k := rfl
        generalize rV 2 x zs k = vk at *
        generalize rAt 2 k = ra at *
        have HSN := TW.hide hsn
        have HB := TW.hide hbel
        clear hsn hbel
        have k9 : (k : Int) ≤ 9 := by omega
        by_cases h6 : k = 6
        · subst h6
          cases x
          · rw [if_neg (by simp)] at hrn
            rw [hrn] at c53
            generalize rSz 2 (6 : Nat) = rs at *
            have h66 : (((6 : Nat) : Int) == 6) = true := rfl
            go_wp2_with fail
            refine (c50.out _).mono ?_
            rintro e w1 ⟨rfl, rfl⟩
            go_wp2_with fail
            refine (c53.out _ HB.out).mono ?_
            rintro e w1 ⟨rfl, rfl⟩
            go_wp2_with (at_builtin; refine wpList_append_own _ rfl _ _ 69 rfl W.heap.size 23 i0 (.int .u64 0) 1 8 Try.underlying69 hi hz0 hz1 hz2 rfl (by decide) _ _ _ rfl (hown.alloc _) ⟨wr.heap.size, 0, none⟩ 1 1 [.int .u64 vk] rfl rfl ?c1 ?c2 ?c3 ?c4 ?c5 ?_)
            case c1 => exact one_new28 _ _
            case c2 => intro u hu; simp at hu; subst hu; rfl
            case c3 => unfold maxLen; omega
            case c4 => omega
            case c5 => have := HB.out.size; simp; omega
            intro v' w2 hown' hgrow' _
            have hbel2 : Below W.heap.size W w2 := (HB.out.alloc HB.out.size _).grown hgrow' (by have := HB.out.size; simp; omega) (own_block28 hown)
            have K1' := TW.hide hown'
            have K2' := TW.hide hbel2
            clear hown hown' hgrow' hbel2
            go_wp2
            (first | (go_roundw; case' rel => skip) | (refine ⟨?_, ?measure⟩; (repeat apply Exists.intro); refine ⟨?rel, rfl⟩))
            case rel => exact ⟨6 + 1, by omega, by omega, by go_num, by rw [HSN.out, us_append]; exact K1'.out, K2'.out⟩
            case measure => simp [intOf]; try omega
          · rw [if_pos (by simp)] at hrn
            rw [hrn] at c53
            generalize rSz 2 (6 : Nat) = rs at *
            have h66 : (((6 : Nat) : Int) == 6) = true := rfl
            go_wp2_with fail
            refine (c50.out _).mono ?_
            rintro e w1 ⟨rfl, rfl⟩
            go_wp2_with fail
            refine (c53.out _ HB.out).mono ?_
            rintro e w1 ⟨rfl, rfl⟩
            go_wp2_with (at_builtin; refine wpList_append_own _ rfl _ _ 69 rfl W.heap.size 23 i0 (.int .u64 0) 1 8 Try.underlying69 hi hz0 hz1 hz2 rfl (by decide) _ _ _ rfl (hown.alloc _) ⟨wr.heap.size, 0, none⟩ 1 1 [.int .u64 vk] rfl rfl ?c1 ?c2 ?c3 ?c4 ?c5 ?_)
            case c1 => exact one_new28 _ _
            case c2 => intro u hu; simp at hu; subst hu; rfl
            case c3 => unfold maxLen; omega
            case c4 => omega
            case c5 => have := HB.out.size; simp; omega
            intro v' w2 hown' hgrow' _
            have hbel2 : Below W.heap.size W w2 := (HB.out.alloc HB.out.size _).grown hgrow' (by have := HB.out.size; simp; omega) (own_block28 hown)
            have K1' := TW.hide hown'
            have K2' := TW.hide hbel2
            clear hown hown' hgrow' hbel2
            go_wp2
            (first | (go_roundw; case' rel => skip) | (refine ⟨?_, ?measure⟩; (repeat apply Exists.intro); refine ⟨?rel, rfl⟩))
            case rel => exact ⟨6 + 1, by omega, by omega, by go_num, by rw [HSN.out, us_append]; exact K1'.out, K2'.out⟩
            case measure => simp [intOf]; try omega
        · rw [if_neg (by omega)] at hrn
          rw [hrn] at c53
          generalize rSz 2 k = rs at *
          have h66 : ((k : Int) == 6) = false := by simp; omega
          go_wp2_with fail
          refine (c50.out _).mono ?_
          rintro e w1 ⟨rfl, rfl⟩
          go_wp2_with fail
          refine (c53.out _ HB.out).mono ?_
          rintro e w1 ⟨rfl, rfl⟩
          go_wp2_with (at_builtin; refine wpList_append_own _ rfl _ _ 69 rfl W.heap.size 23 i0 (.int .u64 0) 1 8 Try.underlying69 hi hz0 hz1 hz2 rfl (by decide) _ _ _ rfl (hown.alloc _) ⟨wr.heap.size, 0, none⟩ 1 1 [.int .u64 vk] rfl rfl ?c1 ?c2 ?c3 ?c4 ?c5 ?_)
          case c1 => exact one_new28 _ _
          case c2 => intro u hu; simp at hu; subst hu; rfl
          case c3 => unfold maxLen; omega
          case c4 => omega
          case c5 => have := HB.out.size; simp; omega
          intro v' w2 hown' hgrow' _
          have hbel2 : Below W.heap.size W w2 := (HB.out.alloc HB.out.size _).grown hgrow' (by have := HB.out.size; simp; omega) (own_block28 hown)
          have K1' := TW.hide hown'
          have K2' := TW.hide hbel2
          clear hown hown' hgrow' hbel2
          go_wp2
          (first | (go_roundw; case' rel => skip) | (refine ⟨?_, ?measure⟩; (repeat apply Exists.intro); refine ⟨?rel, rfl⟩))
          case rel => exact ⟨k + 1, by omega, by omega, by go_num, by rw [HSN.out, us_append]; exact K1'.out, K2'.out⟩
          case measure => simp [intOf]; try omega
      · obtain rfl : k = 10 := by omega
        have HA := TW.hide a1
        clear a1
        have hV10 : (vL 2 x zs).take 10 = (vL 2 x zs) := rfl
        rw [hV10] at hown
        obtain ⟨g, vc, rfl, hg, hgl, hfz, hcells⟩ := us_own hown (by simp [vL])
        have n0 : wr.heap[B]? = some (.cells (pcP Pm.zero (.slice none 0 0) (.slice none 0 0)) 26 (0, 0)) := by rw [hbel.block B (blk_lt M0.out)]; exact M0.out
        have hb : Below B w wr := MB.out.trans (hbel.mono (by have := blk_lt M0.out; omega))
        have hgB : B < g := by have := blk_lt M0.out; omega
        have N0 := TW.hide n0
        have NB := TW.hide hb
        have HC := TW.hide hcells
        clear n0 hb hown hbel hcells hV10
        rw [show (vL 2 x zs).length = 10 from rfl] at *
        go_wp2
        refine HA.out _ _ ?_
        clear HA H50 H53 M0 MB
        have f7 := hfz 7
        clear hfz
        cases x
        · refine wp_seq_k fun KK hK => ?_
          have HK := TW.hide hK
          clear hK
          have c7 := HC.out 7 (by decide)
          generalize (vL 2 false zs).getD 7 0 = z7 at c7
          go_wp2
          clear c7 f7
          have hv : ∀ i : Nat, 1 ≤ i → i ≤ 9 → (wr.setCell ⟨g, 7, none⟩ (.int .u64 0)).cell? ⟨g, i, none⟩ = some (.int .u64 ((dP 2 false zs).nv i)) := fun i h1 h9 => by
            rw [dP_nv 2 false zs i (by omega) (by omega)]
            by_cases h7 : i = 7
            · subst h7
              rw [show fV 2 false zs ((7 : Nat) : Int) = 0 from fV7_false 2 zs]
              exact cell_setCell_same (HC.out 7 (by decide))
            · rw [cell_setCell_off (by omega), HC.out i (by omega), vL_get _ _ _ i h1 h9, rV_fV _ _ _ _ (.inl (by omega))]
          have n0 := blk_other (p := g) (o := 7) (u := .int .u64 0) N0.out (by omega)
          have nb := NB.out.setCell (p := ⟨g, 7, none⟩) (by simp; omega) (.int .u64 0)
          clear HC N0 NB
          generalize wr.setCell ⟨g, 7, none⟩ (.int .u64 0) = Y1 at *
          refine HK.out _ _ ?_
          clear HK KK
          have N0 := TW.hide n0
          have NB := TW.hide nb
          have HV := TW.hide hv
          clear n0 nb hv
          have hbd := fun f h1 h9 => fV_bd 2 f false zs HZ.out (.inr rfl) h1 h9
          have x1 : IntKind.i64.wrap ((dP 2 false zs).nv 1) = (dP 2 false zs).nv 1 := by
            have h := hbd 1 (by decide) (by decide)
            have h4 := h.2.2.1 (by decide)
            rw [dP_nv 2 false zs 1 (by decide) (by decide), IntKind.wrap_i64]; omega
          have x2 : IntKind.i64.wrap ((dP 2 false zs).nv 2) = (dP 2 false zs).nv 2 := by
            have h := hbd 2 (by decide) (by decide)
            have h4 := h.2.2.1 (by decide)
            rw [dP_nv 2 false zs 2 (by decide) (by decide), IntKind.wrap_i64]; omega
          have x3 : IntKind.i64.wrap ((dP 2 false zs).nv 3) = (dP 2 false zs).nv 3 := by
            have h := hbd 3 (by decide) (by decide)
            have h4 := h.2.2.1 (by decide)
            rw [dP_nv 2 false zs 3 (by decide) (by decide), IntKind.wrap_i64]; omega
          have x4 : IntKind.i64.wrap ((dP 2 false zs).nv 4) = (dP 2 false zs).nv 4 := by
            have h := hbd 4 (by decide) (by decide)
            have h4 := h.2.2.1 (by decide)
            rw [dP_nv 2 false zs 4 (by decide) (by decide), IntKind.wrap_i64]; omega
          have x5 : IntKind.u32.wrap ((dP 2 false zs).nv 5) = (dP 2 false zs).nv 5 := by
            have h := hbd 5 (by decide) (by decide)
            have h4 := h.2.2.1 (by decide)
            rw [dP_nv 2 false zs 5 (by decide) (by decide), IntKind.wrap_u32]; omega
          have x7 : IntKind.u32.wrap ((dP 2 false zs).nv 7) = (dP 2 false zs).nv 7 := by
            have h := hbd 7 (by decide) (by decide)
            have h4 := h.2.2.1 (by decide)
            rw [dP_nv 2 false zs 7 (by decide) (by decide), IntKind.wrap_u32]; omega
          have x8 : IntKind.i64.wrap ((dP 2 false zs).nv 8) = (dP 2 false zs).nv 8 := by
            have h := hbd 8 (by decide) (by decide)
            have h4 := h.2.2.1 (by decide)
            rw [dP_nv 2 false zs 8 (by decide) (by decide), IntKind.wrap_i64]; omega
          have x9 : IntKind.i64.wrap ((dP 2 false zs).nv 9) = (dP 2 false zs).nv 9 := by
            have h := hbd 9 (by decide) (by decide)
            have h4 := h.2.2.1 (by decide)
            rw [dP_nv 2 false zs 9 (by decide) (by decide), IntKind.wrap_i64]; omega
          clear hbd
          have hok := dP_Ok 2 false zs HZ.out (.inr rfl)
          obtain ⟨hsl, hpl⟩ := sa_length 2 zs (.inr rfl) (by rw [HL.out]; rfl)
          have hs4 : (mo 2 / 4).toNat = 8 := rfl
          rw [hs4] at hsl hpl
          have H20 := TW.hide (fun Y (hbY : Below w.heap.size w Y) => rnormalP 2 (dP 2 false zs) hok (some ⟨b, off + 16, none⟩) (some ⟨b, off + 24, none⟩) (cap - 16) (cap - 24) (saL 2 zs) (peL 2 zs) Y
            ⟨(HRB.out Y (hB ▸ hbY)).sub 16 8 (by rw [HL.out]; decide), (fun h => by cases h), by rw [hsl]; decide, by rw [hsl]; have := HCAP.out; have := HL.out; omega, (HZ.out.drop _).take _⟩ ⟨(HRB.out Y (hB ▸ hbY)).sub 24 8 (by rw [HL.out]; decide), (fun h => by cases h), by rw [hpl]; decide, by rw [hpl]; have := HCAP.out; have := HL.out; omega, (HZ.out.drop _).take _⟩)
          rw [hsl, hpl, hB] at H20
          have HEQ : Hid ((mo 2 / 4).toNat = 8) := hs4
          clear hok hsl hpl hs4
          generalize hPP : (dP 2 false zs) = PP at *
          have HPP := TW.hide hPP
          clear hPP
          generalize hEE : PP.ck 2 8 8 = EE at *
          have HEE := TW.hide hEE
          clear hEE
          have H11 : Hid (∀ Y : World, Calls Try.prog 36 #[.int .i64 2] Y fun e w' => e = .returned (.int .i64 32) ∧ Y = w') := fun Y => rmost 2 Y
          refine wp_seq_k fun KK hK => ?_
          have HK := TW.hide hK
          clear hK
          go_wp2_with fail
          refine (H11.out _).mono ?_
          rintro e w2 ⟨rfl, rfl⟩
          go_wp2
          refine HK.out _ _ ?_
          clear HK KK H11
          have hcap : (32 : Int) ≤ (cap : Int) := by have := HCAP.out; have := HL.out; omega
          have w16 : IntKind.i64.wrap 16 = 16 := by rw [IntKind.wrap_i64]; rfl
          have l16 : (16 : Int) ≤ (cap : Int) := by omega
          have n16 : ¬ cap = 16 := by omega
          have w24 : IntKind.i64.wrap 24 = 24 := by rw [IntKind.wrap_i64]; rfl
          have l24 : (24 : Int) ≤ (cap : Int) := by omega
          have n24 : ¬ cap = 24 := by omega
          have w32 : IntKind.i64.wrap 32 = 32 := by rw [IntKind.wrap_i64]; rfl
          have l32 : (32 : Int) ≤ (cap : Int) := by omega
          refine wp_seq_k fun KK hKK => ?_
          have HKK := TW.hide hKK
          clear hKK
          refine wp_region_noPanic ?_
          refine RG.wp_region_L (fun Z => True) (fun Z => (∀ i : Nat, 1 ≤ i → i ≤ 9 → Z.cell? ⟨g, i, none⟩ = some (.int .u64 (PP.nv i))) ∧ Z.heap[B]? = some (.cells (pcP Pm.zero (.slice none 0 0) (.slice none 0 0)) 26 (0, 0)) ∧ Below B w Z ∧ g < Z.heap.size) [] (by kernel_rfl) ?_
          have HT0 : Hid ((∀ i : Nat, 1 ≤ i → i ≤ 9 → Y1.drew.cell? ⟨g, i, none⟩ = some (.int .u64 (PP.nv i))) ∧ Y1.drew.heap[B]? = some (.cells (pcP Pm.zero (.slice none 0 0) (.slice none 0 0)) 26 (0, 0)) ∧ Below B w Y1.drew ∧ g < Y1.drew.heap.size) := ⟨HV.out, N0.out, below_drewN NB.out 1, blk_lt_cell (HV.out 1 (by decide) (by decide))⟩
          clear HV N0 NB
          generalize Y1.drew = Y2 at *
          refine RG.wpL_take (fuel := 2) (a' := ?Afalse) [0, 1, 2, 3, 4, 5, 6, 7, 8, 9, 10, 11, 12, 13, 14, 15, 16, 17, 18, 19, 20, 21, 22, 23, 24, 25, 26, 27, 28, 29, 30, 31, 32, 33, 34, 35, 36, 37, 38, 39, 40, 41, 42, 43, 44, 45, 46, 47] (by kernel_rfl) (by kernel_rfl) (fun _ _ _ _ _ h => h) HT0.out (fun _ => trivial) ?rfalse ?_
          case rfalse =>
            refine RG.RunsIf.weak (v := ?_) (by rfl) (by rfl) (fun Z hT => ?_) ?_
            rotate_left
            · skip
              go_simp
              rfl
            simp only [Act.put, List.setIfInBounds_toArray, List.set_cons_zero, List.set_cons_succ, List.getElem_toArray, List.getElem_cons_zero, List.getElem_cons_succ]
            refine RG.RunsIf.weak (v := ?_) (by rfl) (by rfl) (fun Z hT => ?_) ?_
            rotate_left
            · skip
              go_simp
              rfl
            simp only [Act.put, List.setIfInBounds_toArray, List.set_cons_zero, List.set_cons_succ, List.getElem_toArray, List.getElem_cons_zero, List.getElem_cons_succ]
            refine RG.RunsIf.weak (v := ?_) (by rfl) (by rfl) (fun Z hT => ?_) ?_
            rotate_left
            · have c : Z.cell? ⟨g, 1, none⟩ = some (.int .u64 PP.d) := hT.1 1 (by decide) (by decide)
              go_simp
              rfl
            simp only [Act.put, List.setIfInBounds_toArray, List.set_cons_zero, List.set_cons_succ, List.getElem_toArray, List.getElem_cons_zero, List.getElem_cons_succ]
            refine RG.RunsIf.weak (v := ?_) (by rfl) (by rfl) (fun Z hT => ?_) ?_
            rotate_left
            · skip
              go_simp
              rfl
            simp only [Act.put, List.setIfInBounds_toArray, List.set_cons_zero, List.set_cons_succ, List.getElem_toArray, List.getElem_cons_zero, List.getElem_cons_succ]
            refine RG.RunsIf.weak (v := ?_) (by rfl) (by rfl) (fun Z hT => ?_) ?_
            rotate_left
            · skip
              go_simp
              rfl
            simp only [Act.put, List.setIfInBounds_toArray, List.set_cons_zero, List.set_cons_succ, List.getElem_toArray, List.getElem_cons_zero, List.getElem_cons_succ]
            refine RG.RunsIf.weak (v := ?_) (by rfl) (by rfl) (fun Z hT => ?_) ?_
            rotate_left
            · skip
              go_simp
              rfl
            simp only [Act.put, List.setIfInBounds_toArray, List.set_cons_zero, List.set_cons_succ, List.getElem_toArray, List.getElem_cons_zero, List.getElem_cons_succ]
            refine RG.RunsIf.weak (v := ?_) (by rfl) (by rfl) (fun Z hT => ?_) ?_
            rotate_left
            · have c : Z.cell? ⟨g, 2, none⟩ = some (.int .u64 PP.k) := hT.1 2 (by decide) (by decide)
              go_simp
              rfl
            simp only [Act.put, List.setIfInBounds_toArray, List.set_cons_zero, List.set_cons_succ, List.getElem_toArray, List.getElem_cons_zero, List.getElem_cons_succ]
            refine RG.RunsIf.weak (v := ?_) (by rfl) (by rfl) (fun Z hT => ?_) ?_
            rotate_left
            · skip
              go_simp
              rfl
            simp only [Act.put, List.setIfInBounds_toArray, List.set_cons_zero, List.set_cons_succ, List.getElem_toArray, List.getElem_cons_zero, List.getElem_cons_succ]
            refine RG.RunsIf.weak (v := ?_) (by rfl) (by rfl) (fun Z hT => ?_) ?_
            rotate_left
            · skip
              go_simp
              rfl
            simp only [Act.put, List.setIfInBounds_toArray, List.set_cons_zero, List.set_cons_succ, List.getElem_toArray, List.getElem_cons_zero, List.getElem_cons_succ]
            refine RG.RunsIf.weak (v := ?_) (by rfl) (by rfl) (fun Z hT => ?_) ?_
            rotate_left
            · skip
              go_simp
              rfl
            simp only [Act.put, List.setIfInBounds_toArray, List.set_cons_zero, List.set_cons_succ, List.getElem_toArray, List.getElem_cons_zero, List.getElem_cons_succ]
            refine RG.RunsIf.weak (v := ?_) (by rfl) (by rfl) (fun Z hT => ?_) ?_
            rotate_left
            · have c : Z.cell? ⟨g, 3, none⟩ = some (.int .u64 PP.f) := hT.1 3 (by decide) (by decide)
              go_simp
              rfl
            simp only [Act.put, List.setIfInBounds_toArray, List.set_cons_zero, List.set_cons_succ, List.getElem_toArray, List.getElem_cons_zero, List.getElem_cons_succ]
            refine RG.RunsIf.weak (v := ?_) (by rfl) (by rfl) (fun Z hT => ?_) ?_
            rotate_left
            · skip
              go_simp
              rfl
            simp only [Act.put, List.setIfInBounds_toArray, List.set_cons_zero, List.set_cons_succ, List.getElem_toArray, List.getElem_cons_zero, List.getElem_cons_succ]
            refine RG.RunsIf.weak (v := ?_) (by rfl) (by rfl) (fun Z hT => ?_) ?_
            rotate_left
            · skip
              go_simp
              rfl
            simp only [Act.put, List.setIfInBounds_toArray, List.set_cons_zero, List.set_cons_succ, List.getElem_toArray, List.getElem_cons_zero, List.getElem_cons_succ]
            refine RG.RunsIf.weak (v := ?_) (by rfl) (by rfl) (fun Z hT => ?_) ?_
            rotate_left
            · skip
              go_simp
              rfl
            simp only [Act.put, List.setIfInBounds_toArray, List.set_cons_zero, List.set_cons_succ, List.getElem_toArray, List.getElem_cons_zero, List.getElem_cons_succ]
            refine RG.RunsIf.weak (v := ?_) (by rfl) (by rfl) (fun Z hT => ?_) ?_
            rotate_left
            · have c : Z.cell? ⟨g, 4, none⟩ = some (.int .u64 PP.dp) := hT.1 4 (by decide) (by decide)
              go_simp
              rfl
            simp only [Act.put, List.setIfInBounds_toArray, List.set_cons_zero, List.set_cons_succ, List.getElem_toArray, List.getElem_cons_zero, List.getElem_cons_succ]
            refine RG.RunsIf.weak (v := ?_) (by rfl) (by rfl) (fun Z hT => ?_) ?_
            rotate_left
            · skip
              go_simp
              rfl
            simp only [Act.put, List.setIfInBounds_toArray, List.set_cons_zero, List.set_cons_succ, List.getElem_toArray, List.getElem_cons_zero, List.getElem_cons_succ]
            refine RG.RunsIf.weak (v := ?_) (by rfl) (by rfl) (fun Z hT => ?_) ?_
            rotate_left
            · skip
              go_simp
              rfl
            simp only [Act.put, List.setIfInBounds_toArray, List.set_cons_zero, List.set_cons_succ, List.getElem_toArray, List.getElem_cons_zero, List.getElem_cons_succ]
            refine RG.RunsIf.weak (v := ?_) (by rfl) (by rfl) (fun Z hT => ?_) ?_
            rotate_left
            · skip
              go_simp
              rfl
            simp only [Act.put, List.setIfInBounds_toArray, List.set_cons_zero, List.set_cons_succ, List.getElem_toArray, List.getElem_cons_zero, List.getElem_cons_succ]
            refine RG.RunsIf.weak (v := ?_) (by rfl) (by rfl) (fun Z hT => ?_) ?_
            rotate_left
            · have c : Z.cell? ⟨g, 5, none⟩ = some (.int .u64 PP.lf) := hT.1 5 (by decide) (by decide)
              go_simp
              rfl
            simp only [Act.put, List.setIfInBounds_toArray, List.set_cons_zero, List.set_cons_succ, List.getElem_toArray, List.getElem_cons_zero, List.getElem_cons_succ]
            refine RG.RunsIf.weak (v := ?_) (by rfl) (by rfl) (fun Z hT => ?_) ?_
            rotate_left
            · skip
              go_simp
              rfl
            simp only [Act.put, List.setIfInBounds_toArray, List.set_cons_zero, List.set_cons_succ, List.getElem_toArray, List.getElem_cons_zero, List.getElem_cons_succ]
            refine RG.RunsIf.weak (v := ?_) (by rfl) (by rfl) (fun Z hT => ?_) ?_
            rotate_left
            · skip
              go_simp
              rfl
            simp only [Act.put, List.setIfInBounds_toArray, List.set_cons_zero, List.set_cons_succ, List.getElem_toArray, List.getElem_cons_zero, List.getElem_cons_succ]
            refine RG.RunsIf.weak (v := ?_) (by rfl) (by rfl) (fun Z hT => ?_) ?_
            rotate_left
            · skip
              go_simp
              rfl
            simp only [Act.put, List.setIfInBounds_toArray, List.set_cons_zero, List.set_cons_succ, List.getElem_toArray, List.getElem_cons_zero, List.getElem_cons_succ]
            refine RG.RunsIf.weak (v := ?_) (by rfl) (by rfl) (fun Z hT => ?_) ?_
            rotate_left
            · have c : Z.cell? ⟨g, 6, none⟩ = some (.int .u64 PP.off) := hT.1 6 (by decide) (by decide)
              go_simp
              rfl
            simp only [Act.put, List.setIfInBounds_toArray, List.set_cons_zero, List.set_cons_succ, List.getElem_toArray, List.getElem_cons_zero, List.getElem_cons_succ]
            refine RG.RunsIf.weak (v := ?_) (by rfl) (by rfl) (fun Z hT => ?_) ?_
            rotate_left
            · skip
              go_simp
              rfl
            simp only [Act.put, List.setIfInBounds_toArray, List.set_cons_zero, List.set_cons_succ, List.getElem_toArray, List.getElem_cons_zero, List.getElem_cons_succ]
            refine RG.RunsIf.weak (v := ?_) (by rfl) (by rfl) (fun Z hT => ?_) ?_
            rotate_left
            · skip
              go_simp
              rfl
            simp only [Act.put, List.setIfInBounds_toArray, List.set_cons_zero, List.set_cons_succ, List.getElem_toArray, List.getElem_cons_zero, List.getElem_cons_succ]
            refine RG.RunsIf.weak (v := ?_) (by rfl) (by rfl) (fun Z hT => ?_) ?_
            rotate_left
            · have c : Z.cell? ⟨g, 7, none⟩ = some (.int .u64 PP.xof) := hT.1 7 (by decide) (by decide)
              go_simp
              rfl
            simp only [Act.put, List.setIfInBounds_toArray, List.set_cons_zero, List.set_cons_succ, List.getElem_toArray, List.getElem_cons_zero, List.getElem_cons_succ]
            refine RG.RunsIf.weak (v := ?_) (by rfl) (by rfl) (fun Z hT => ?_) ?_
            rotate_left
            · skip
              go_simp
              rfl
            simp only [Act.put, List.setIfInBounds_toArray, List.set_cons_zero, List.set_cons_succ, List.getElem_toArray, List.getElem_cons_zero, List.getElem_cons_succ]
            refine RG.RunsIf.weak (v := ?_) (by rfl) (by rfl) (fun Z hT => ?_) ?_
            rotate_left
            · skip
              go_simp
              rfl
            simp only [Act.put, List.setIfInBounds_toArray, List.set_cons_zero, List.set_cons_succ, List.getElem_toArray, List.getElem_cons_zero, List.getElem_cons_succ]
            refine RG.RunsIf.weak (v := ?_) (by rfl) (by rfl) (fun Z hT => ?_) ?_
            rotate_left
            · skip
              go_simp
              rfl
            simp only [Act.put, List.setIfInBounds_toArray, List.set_cons_zero, List.set_cons_succ, List.getElem_toArray, List.getElem_cons_zero, List.getElem_cons_succ]
            refine RG.RunsIf.weak (v := ?_) (by rfl) (by rfl) (fun Z hT => ?_) ?_
            rotate_left
            · have c : Z.cell? ⟨g, 8, none⟩ = some (.int .u64 PP.nd) := hT.1 8 (by decide) (by decide)
              go_simp
              rfl
            simp only [Act.put, List.setIfInBounds_toArray, List.set_cons_zero, List.set_cons_succ, List.getElem_toArray, List.getElem_cons_zero, List.getElem_cons_succ]
            refine RG.RunsIf.weak (v := ?_) (by rfl) (by rfl) (fun Z hT => ?_) ?_
            rotate_left
            · skip
              go_simp
              rfl
            simp only [Act.put, List.setIfInBounds_toArray, List.set_cons_zero, List.set_cons_succ, List.getElem_toArray, List.getElem_cons_zero, List.getElem_cons_succ]
            refine RG.RunsIf.weak (v := ?_) (by rfl) (by rfl) (fun Z hT => ?_) ?_
            rotate_left
            · skip
              go_simp
              rfl
            simp only [Act.put, List.setIfInBounds_toArray, List.set_cons_zero, List.set_cons_succ, List.getElem_toArray, List.getElem_cons_zero, List.getElem_cons_succ]
            refine RG.RunsIf.weak (v := ?_) (by rfl) (by rfl) (fun Z hT => ?_) ?_
            rotate_left
            · skip
              go_simp
              rfl
            simp only [Act.put, List.setIfInBounds_toArray, List.set_cons_zero, List.set_cons_succ, List.getElem_toArray, List.getElem_cons_zero, List.getElem_cons_succ]
            refine RG.RunsIf.weak (v := ?_) (by rfl) (by rfl) (fun Z hT => ?_) ?_
            rotate_left
            · have c : Z.cell? ⟨g, 9, none⟩ = some (.int .u64 PP.inn) := hT.1 9 (by decide) (by decide)
              go_simp
              rfl
            simp only [Act.put, List.setIfInBounds_toArray, List.set_cons_zero, List.set_cons_succ, List.getElem_toArray, List.getElem_cons_zero, List.getElem_cons_succ]
            refine RG.RunsIf.weak (v := ?_) (by rfl) (by rfl) (fun Z hT => ?_) ?_
            rotate_left
            · skip
              go_simp
              rfl
            simp only [Act.put, List.setIfInBounds_toArray, List.set_cons_zero, List.set_cons_succ, List.getElem_toArray, List.getElem_cons_zero, List.getElem_cons_succ]
            refine RG.RunsIf.weak (v := ?_) (by rfl) (by rfl) (fun Z hT => ?_) ?_
            rotate_left
            · skip
              go_simp
              rfl
            simp only [Act.put, List.setIfInBounds_toArray, List.set_cons_zero, List.set_cons_succ, List.getElem_toArray, List.getElem_cons_zero, List.getElem_cons_succ]
            refine RG.RunsIf.weak (v := ?_) (by rfl) (by rfl) (fun Z hT => ?_) ?_
            rotate_left
            · skip
              go_simp
              rfl
            simp only [Act.put, List.setIfInBounds_toArray, List.set_cons_zero, List.set_cons_succ, List.getElem_toArray, List.getElem_cons_zero, List.getElem_cons_succ]
            refine RG.RunsIf.weak (v := ?_) (by rfl) (by rfl) (fun Z hT => ?_) ?_
            rotate_left
            · skip
              go_simp
              rfl
            simp only [Act.put, List.setIfInBounds_toArray, List.set_cons_zero, List.set_cons_succ, List.getElem_toArray, List.getElem_cons_zero, List.getElem_cons_succ]
            refine RG.RunsIf.weak (v := ?_) (by rfl) (by rfl) (fun Z hT => ?_) ?_
            rotate_left
            · skip
              go_simp
              rfl
            simp only [Act.put, List.setIfInBounds_toArray, List.set_cons_zero, List.set_cons_succ, List.getElem_toArray, List.getElem_cons_zero, List.getElem_cons_succ]
            refine RG.RunsIf.weak (v := ?_) (by rfl) (by rfl) (fun Z hT => ?_) ?_
            rotate_left
            · skip
              go_simp
              rfl
            simp only [Act.put, List.setIfInBounds_toArray, List.set_cons_zero, List.set_cons_succ, List.getElem_toArray, List.getElem_cons_zero, List.getElem_cons_succ]
            refine RG.RunsIf.weak (v := ?_) (by rfl) (by rfl) (fun Z hT => ?_) ?_
            rotate_left
            · skip
              go_simp
              rfl
            simp only [Act.put, List.setIfInBounds_toArray, List.set_cons_zero, List.set_cons_succ, List.getElem_toArray, List.getElem_cons_zero, List.getElem_cons_succ]
            refine RG.RunsIf.weak (v := ?_) (by rfl) (by rfl) (fun Z hT => ?_) ?_
            rotate_left
            · skip
              go_simp
              rfl
            simp only [Act.put, List.setIfInBounds_toArray, List.set_cons_zero, List.set_cons_succ, List.getElem_toArray, List.getElem_cons_zero, List.getElem_cons_succ]
            refine RG.RunsIf.weak (v := ?_) (by rfl) (by rfl) (fun Z hT => ?_) ?_
            rotate_left
            · skip
              go_simp
              rfl
            simp only [Act.put, List.setIfInBounds_toArray, List.set_cons_zero, List.set_cons_succ, List.getElem_toArray, List.getElem_cons_zero, List.getElem_cons_succ]
            refine RG.RunsIf.weak (v := ?_) (by rfl) (by rfl) (fun Z hT => ?_) ?_
            rotate_left
            · skip
              go_simp
              rfl
            simp only [Act.put, List.setIfInBounds_toArray, List.set_cons_zero, List.set_cons_succ, List.getElem_toArray, List.getElem_cons_zero, List.getElem_cons_succ]
            refine RG.RunsIf.weak (v := ?_) (by rfl) (by rfl) (fun Z hT => ?_) ?_
            rotate_left
            · skip
              go_simp
              rfl
            simp only [Act.put, List.setIfInBounds_toArray, List.set_cons_zero, List.set_cons_succ, List.getElem_toArray, List.getElem_cons_zero, List.getElem_cons_succ]
            refine RG.RunsIf.weak (v := ?_) (by rfl) (by rfl) (fun Z hT => ?_) ?_
            rotate_left
            · skip
              go_simp
              rfl
            simp only [Act.put, List.setIfInBounds_toArray, List.set_cons_zero, List.set_cons_succ, List.getElem_toArray, List.getElem_cons_zero, List.getElem_cons_succ]
            refine RG.RunsIf.weak (v := ?_) (by rfl) (by rfl) (fun Z hT => ?_) ?_
            rotate_left
            · skip
              go_simp
              rfl
            simp only [Act.put, List.setIfInBounds_toArray, List.set_cons_zero, List.set_cons_succ, List.getElem_toArray, List.getElem_cons_zero, List.getElem_cons_succ]
            refine RG.RunsIf.weak (v := ?_) (by rfl) (by rfl) (fun Z hT => ?_) ?_
            rotate_left
            · skip
              go_simp
              rfl
            simp only [Act.put, List.setIfInBounds_toArray, List.set_cons_zero, List.set_cons_succ, List.getElem_toArray, List.getElem_cons_zero, List.getElem_cons_succ]
            exact RG.RunsIf.nil
          refine RG.wpL_step (i := 48) (by kernel_rfl) (by rfl) (by rfl) (fun K hK => ?_)
          have HK := TW.hide hK
          clear hK
          go_simp
          have hn := heap_new Y2 (.cells #[.int .i64 0, .int .i64 0, .int .i64 0, .int .i64 0, .int .u32 0, .int .u64 0, .int .u32 0, .int .i64 0, .int .i64 0, .slice none 0 0, .slice none 0 0] 26)
          have ba := (Below.refl Y2.heap.size Y2).alloc (Nat.le_refl _) (.cells #[.int .i64 0, .int .i64 0, .int .i64 0, .int .i64 0, .int .u32 0, .int .u64 0, .int .u32 0, .int .i64 0, .int .i64 0, .slice none 0 0, .slice none 0 0] 26)
          have HT1 : Hid ((∀ i : Nat, 1 ≤ i → i ≤ 9 → (Y2.alloc (.cells #[.int .i64 0, .int .i64 0, .int .i64 0, .int .i64 0, .int .u32 0, .int .u64 0, .int .u32 0, .int .i64 0, .int .i64 0, .slice none 0 0, .slice none 0 0] 26)).cell? ⟨g, i, none⟩ = some (.int .u64 (PP.nv i))) ∧ (Y2.alloc (.cells #[.int .i64 0, .int .i64 0, .int .i64 0, .int .i64 0, .int .u32 0, .int .u64 0, .int .u32 0, .int .i64 0, .int .i64 0, .slice none 0 0, .slice none 0 0] 26)).heap[B]? = some (.cells (pcP Pm.zero (.slice none 0 0) (.slice none 0 0)) 26 (0, 0)) ∧ Below B w (Y2.alloc (.cells #[.int .i64 0, .int .i64 0, .int .i64 0, .int .i64 0, .int .u32 0, .int .u64 0, .int .u32 0, .int .i64 0, .int .i64 0, .slice none 0 0, .slice none 0 0] 26)) ∧ g < (Y2.alloc (.cells #[.int .i64 0, .int .i64 0, .int .i64 0, .int .i64 0, .int .u32 0, .int .u64 0, .int .u32 0, .int .i64 0, .int .i64 0, .slice none 0 0, .slice none 0 0] 26)).heap.size) := ⟨fun i h1 h9 => by rw [ba.cell HT0.out.2.2.2]; exact HT0.out.1 i h1 h9, blk_keep HT0.out.2.1 ba, below_row HT0.out.2.2.1 ba (by have := blk_lt HT0.out.2.1; omega), by simp; have := HT0.out.2.2.2; omega⟩
          refine HK.out _ _ HT1.out (fun _ => trivial) ?_
          clear HK K ba
          have hBh : B < Y2.heap.size := blk_lt HT0.out.2.1
          have hgh : g < Y2.heap.size := HT0.out.2.2.2
          clear HT0
          generalize Y2.alloc (.cells #[.int .i64 0, .int .i64 0, .int .i64 0, .int .i64 0, .int .u32 0, .int .u64 0, .int .u32 0, .int .i64 0, .int .i64 0, .slice none 0 0, .slice none 0 0] 26) = Y3 at *
          have HN := TW.hide hn
          clear hn
          generalize Y2.heap.size = h at *
          refine RG.wpL_step (i := 49) (by kernel_rfl) (by rfl) (by rfl) (fun K hK => ?_)
          have HK := TW.hide hK
          clear hK
          refine wp_store_row 26 _ _ (by rfl) h (pcP PP (.slice (some ⟨b, off + 16, none⟩) 8 (cap - 16)) (.slice (some ⟨b, off + 24, none⟩) 8 (cap - 24))) (by rfl) (by rfl) 26 _ HN.out (info31 _ _ _) (pc_size Pm.zero _ _ _ _ _) (pc_one _ _ _ _ _ _ _) ?_
          have HT2 : Hid ((∀ i : Nat, 1 ≤ i → i ≤ 9 → (Y3.setRow h (pcP PP (.slice (some ⟨b, off + 16, none⟩) 8 (cap - 16)) (.slice (some ⟨b, off + 24, none⟩) 8 (cap - 24)))).cell? ⟨g, i, none⟩ = some (.int .u64 (PP.nv i))) ∧ (Y3.setRow h (pcP PP (.slice (some ⟨b, off + 16, none⟩) 8 (cap - 16)) (.slice (some ⟨b, off + 24, none⟩) 8 (cap - 24)))).heap[B]? = some (.cells (pcP Pm.zero (.slice none 0 0) (.slice none 0 0)) 26 (0, 0)) ∧ Below B w (Y3.setRow h (pcP PP (.slice (some ⟨b, off + 16, none⟩) 8 (cap - 16)) (.slice (some ⟨b, off + 24, none⟩) 8 (cap - 24)))) ∧ g < (Y3.setRow h (pcP PP (.slice (some ⟨b, off + 16, none⟩) 8 (cap - 16)) (.slice (some ⟨b, off + 24, none⟩) 8 (cap - 24)))).heap.size) := ⟨fun i h1 h9 => by rw [cell_setRow_other (by omega)]; exact HT1.out.1 i h1 h9, by rw [setRow_other _ _ _ _ (by omega)]; exact HT1.out.2.1, below_setRow HT1.out.2.2.1 (by omega), by simpa using HT1.out.2.2.2⟩
          have NH : Hid ((Y3.setRow h (pcP PP (.slice (some ⟨b, off + 16, none⟩) 8 (cap - 16)) (.slice (some ⟨b, off + 24, none⟩) 8 (cap - 24)))).heap[h]? = some (.cells (pcP PP (.slice (some ⟨b, off + 16, none⟩) 8 (cap - 16)) (.slice (some ⟨b, off + 24, none⟩) 8 (cap - 24))) 26 (0, 0))) := setRow_heap _ _ _ _ _ _ HN.out
          refine HK.out _ _ HT2.out (fun _ => trivial) ?_
          clear HK K HT1 HN
          generalize Y3.setRow h (pcP PP (.slice (some ⟨b, off + 16, none⟩) 8 (cap - 16)) (.slice (some ⟨b, off + 24, none⟩) 8 (cap - 24))) = Y4 at *
          refine RG.wpL_done (by kernel_rfl) ?_ _
          refine NoPanic.normal ?_
          refine HKK.out _ _ ?_
          clear HKK KK
          go_wp2_with (refine wpList_load_row (by rfl) 26 _ (by rfl) (h) (by rfl) 26 (pcP PP (.slice (some ⟨b, off + 16, none⟩) 8 (cap - 16)) (.slice (some ⟨b, off + 24, none⟩) 8 (cap - 24))) (0, 0) _ NH.out Try.underlying26 rfl (info31 _ _ _) ?_)
          refine (H20.out _ HT2.out.2.2.1).mono ?_
          rintro e w9 ⟨u, v, rfl, ou, ov, hb9⟩
          have hsz := blk_lt HT2.out.2.1
          have M0 := TW.hide (blk_keep HT2.out.2.1 hb9)
          have MB : Hid (Below B w w9) := below_row HT2.out.2.2.1 hb9 (by omega)
          obtain ⟨ua, uc, rfl⟩ := own_form ou
          obtain ⟨va, vc, rfl⟩ := own_form ov
          have OU := TW.hide (own_mono' (own_setRow (cs := pcP (nP EE PP) (.slice ua (nS EE (saL 2 zs)).length uc) (.slice va (nS EE (peL 2 zs)).length vc)) ou hsz) (show B ≤ Y4.heap.size by omega))
          have OV := TW.hide (own_mono' (own_setRow (cs := pcP (nP EE PP) (.slice ua (nS EE (saL 2 zs)).length uc) (.slice va (nS EE (peL 2 zs)).length vc)) ov hsz) (show B ≤ Y4.heap.size by omega))
          clear hb9 NH HT2 ou ov
          go_wp2_with (refine wpList_store_row (by rfl) 26 _ _ (by rfl) (B) (pcP (nP EE PP) (.slice ua (nS EE (saL 2 zs)).length uc) (.slice va (nS EE (peL 2 zs)).length vc)) (by rfl) (by rfl) 26 _ M0.out (info31 _ _ _) (pc_size _ _ _ _ _ _) (pc_one _ _ _ _ _ _ _) ?_)
          refine bodyPost_ret (v := .tuple #[.agg (pcP (nP EE PP) (.slice ua (nS EE (saL 2 zs)).length uc) (.slice va (nS EE (peL 2 zs)).length vc)), .int .i64 EE]) (results_row_tmp (P := Try.prog) Try.results13 _ _ B 26 _ (0, 0) _ _ (by rfl) (by rfl) (setRow_heap _ _ _ _ _ _ M0.out) Try.underlying26 rfl (info31 _ _ _)) rfl ?_
          have e1 := HEE.out
          have e2 := HPP.out
          subst e1 e2
          rw [HEQ.out]
          exact ⟨_, _, rfl, OU.out, OV.out, below_setRow MB.out (Nat.le_refl _)⟩
        · refine wp_seq_k fun KK hK => ?_
          have HK := TW.hide hK
          clear hK
          have c7 := HC.out 7 (by decide)
          rw [vL_get 2 true zs 7 (by decide) (by decide), rV_fV _ _ _ _ (.inr rfl)] at c7
          have e7 : (fV 2 true zs ((7 : Nat) : Int) == 0) = false := by simpa [dP] using HXX.out
          generalize fV 2 true zs ((7 : Nat) : Int) = z7 at c7 e7
          go_wp2
          clear c7 f7 e7
          have hv : ∀ i : Nat, 1 ≤ i → i ≤ 9 → wr.cell? ⟨g, i, none⟩ = some (.int .u64 ((dP 2 true zs).nv i)) := fun i h1 h9 => by
            rw [dP_nv 2 true zs i (by omega) (by omega), HC.out i (by omega), vL_get _ _ _ i h1 h9, rV_fV _ _ _ _ (.inr rfl)]
          have n0 := N0.out
          have nb := NB.out
          clear HC N0 NB
          generalize wr = Y1 at *
          refine HK.out _ _ ?_
          clear HK KK
          have N0 := TW.hide n0
          have NB := TW.hide nb
          have HV := TW.hide hv
          clear n0 nb hv
          have hbd := fun f h1 h9 => fV_bd 2 f true zs HZ.out (.inr rfl) h1 h9
          have x1 : IntKind.i64.wrap ((dP 2 true zs).nv 1) = (dP 2 true zs).nv 1 := by
            have h := hbd 1 (by decide) (by decide)
            have h4 := h.2.2.1 (by decide)
            rw [dP_nv 2 true zs 1 (by decide) (by decide), IntKind.wrap_i64]; omega
          have x2 : IntKind.i64.wrap ((dP 2 true zs).nv 2) = (dP 2 true zs).nv 2 := by
            have h := hbd 2 (by decide) (by decide)
            have h4 := h.2.2.1 (by decide)
            rw [dP_nv 2 true zs 2 (by decide) (by decide), IntKind.wrap_i64]; omega
          have x3 : IntKind.i64.wrap ((dP 2 true zs).nv 3) = (dP 2 true zs).nv 3 := by
            have h := hbd 3 (by decide) (by decide)
            have h4 := h.2.2.1 (by decide)
            rw [dP_nv 2 true zs 3 (by decide) (by decide), IntKind.wrap_i64]; omega
          have x4 : IntKind.i64.wrap ((dP 2 true zs).nv 4) = (dP 2 true zs).nv 4 := by
            have h := hbd 4 (by decide) (by decide)
            have h4 := h.2.2.1 (by decide)
            rw [dP_nv 2 true zs 4 (by decide) (by decide), IntKind.wrap_i64]; omega
          have x5 : IntKind.u32.wrap ((dP 2 true zs).nv 5) = (dP 2 true zs).nv 5 := by
            have h := hbd 5 (by decide) (by decide)
            have h4 := h.2.2.1 (by decide)
            rw [dP_nv 2 true zs 5 (by decide) (by decide), IntKind.wrap_u32]; omega
          have x7 : IntKind.u32.wrap ((dP 2 true zs).nv 7) = (dP 2 true zs).nv 7 := by
            have h := hbd 7 (by decide) (by decide)
            have h4 := h.2.2.1 (by decide)
            rw [dP_nv 2 true zs 7 (by decide) (by decide), IntKind.wrap_u32]; omega
          have x8 : IntKind.i64.wrap ((dP 2 true zs).nv 8) = (dP 2 true zs).nv 8 := by
            have h := hbd 8 (by decide) (by decide)
            have h4 := h.2.2.1 (by decide)
            rw [dP_nv 2 true zs 8 (by decide) (by decide), IntKind.wrap_i64]; omega
          have x9 : IntKind.i64.wrap ((dP 2 true zs).nv 9) = (dP 2 true zs).nv 9 := by
            have h := hbd 9 (by decide) (by decide)
            have h4 := h.2.2.1 (by decide)
            rw [dP_nv 2 true zs 9 (by decide) (by decide), IntKind.wrap_i64]; omega
          clear hbd
          have hok := dP_Ok 2 true zs HZ.out (.inr rfl)
          obtain ⟨hsl, hpl⟩ := sa_length 2 zs (.inr rfl) (by rw [HL.out]; rfl)
          have hs4 : (mo 2 / 4).toNat = 8 := rfl
          rw [hs4] at hsl hpl
          have H20 := TW.hide (fun Y (hbY : Below w.heap.size w Y) => rnormalP 2 (dP 2 true zs) hok (some ⟨b, off + 16, none⟩) (some ⟨b, off + 24, none⟩) (cap - 16) (cap - 24) (saL 2 zs) (peL 2 zs) Y
            ⟨(HRB.out Y (hB ▸ hbY)).sub 16 8 (by rw [HL.out]; decide), (fun h => by cases h), by rw [hsl]; decide, by rw [hsl]; have := HCAP.out; have := HL.out; omega, (HZ.out.drop _).take _⟩ ⟨(HRB.out Y (hB ▸ hbY)).sub 24 8 (by rw [HL.out]; decide), (fun h => by cases h), by rw [hpl]; decide, by rw [hpl]; have := HCAP.out; have := HL.out; omega, (HZ.out.drop _).take _⟩)
          rw [hsl, hpl, hB] at H20
          have HEQ : Hid ((mo 2 / 4).toNat = 8) := hs4
          clear hok hsl hpl hs4
          generalize hPP : (dP 2 true zs) = PP at *
          have HPP := TW.hide hPP
          clear hPP
          generalize hEE : PP.ck 2 8 8 = EE at *
          have HEE := TW.hide hEE
          clear hEE
          have H11 : Hid (∀ Y : World, Calls Try.prog 36 #[.int .i64 2] Y fun e w' => e = .returned (.int .i64 32) ∧ Y = w') := fun Y => rmost 2 Y
          refine wp_seq_k fun KK hK => ?_
          have HK := TW.hide hK
          clear hK
          go_wp2_with fail
          refine (H11.out _).mono ?_
          rintro e w2 ⟨rfl, rfl⟩
          go_wp2
          refine HK.out _ _ ?_
          clear HK KK H11
          have hcap : (32 : Int) ≤ (cap : Int) := by have := HCAP.out; have := HL.out; omega
          have w16 : IntKind.i64.wrap 16 = 16 := by rw [IntKind.wrap_i64]; rfl
          have l16 : (16 : Int) ≤ (cap : Int) := by omega
          have n16 : ¬ cap = 16 := by omega
          have w24 : IntKind.i64.wrap 24 = 24 := by rw [IntKind.wrap_i64]; rfl
          have l24 : (24 : Int) ≤ (cap : Int) := by omega
          have n24 : ¬ cap = 24 := by omega
          have w32 : IntKind.i64.wrap 32 = 32 := by rw [IntKind.wrap_i64]; rfl
          have l32 : (32 : Int) ≤ (cap : Int) := by omega
          refine wp_seq_k fun KK hKK => ?_
          have HKK := TW.hide hKK
          clear hKK
          refine wp_region_noPanic ?_
          refine RG.wp_region_L (fun Z => True) (fun Z => (∀ i : Nat, 1 ≤ i → i ≤ 9 → Z.cell? ⟨g, i, none⟩ = some (.int .u64 (PP.nv i))) ∧ Z.heap[B]? = some (.cells (pcP Pm.zero (.slice none 0 0) (.slice none 0 0)) 26 (0, 0)) ∧ Below B w Z ∧ g < Z.heap.size) [] (by kernel_rfl) ?_
          have HT0 : Hid ((∀ i : Nat, 1 ≤ i → i ≤ 9 → Y1.drew.cell? ⟨g, i, none⟩ = some (.int .u64 (PP.nv i))) ∧ Y1.drew.heap[B]? = some (.cells (pcP Pm.zero (.slice none 0 0) (.slice none 0 0)) 26 (0, 0)) ∧ Below B w Y1.drew ∧ g < Y1.drew.heap.size) := ⟨HV.out, N0.out, below_drewN NB.out 1, blk_lt_cell (HV.out 1 (by decide) (by decide))⟩
          clear HV N0 NB
          generalize Y1.drew = Y2 at *
          refine RG.wpL_take (fuel := 2) (a' := ?Atrue) [0, 1, 2, 3, 4, 5, 6, 7, 8, 9, 10, 11, 12, 13, 14, 15, 16, 17, 18, 19, 20, 21, 22, 23, 24, 25, 26, 27, 28, 29, 30, 31, 32, 33, 34, 35, 36, 37, 38, 39, 40, 41, 42, 43, 44, 45, 46, 47] (by kernel_rfl) (by kernel_rfl) (fun _ _ _ _ _ h => h) HT0.out (fun _ => trivial) ?rtrue ?_
          case rtrue =>
            refine RG.RunsIf.weak (v := ?_) (by rfl) (by rfl) (fun Z hT => ?_) ?_
            rotate_left
            · skip
              go_simp
              rfl
            simp only [Act.put, List.setIfInBounds_toArray, List.set_cons_zero, List.set_cons_succ, List.getElem_toArray, List.getElem_cons_zero, List.getElem_cons_succ]
            refine RG.RunsIf.weak (v := ?_) (by rfl) (by rfl) (fun Z hT => ?_) ?_
            rotate_left
            · skip
              go_simp
              rfl
            simp only [Act.put, List.setIfInBounds_toArray, List.set_cons_zero, List.set_cons_succ, List.getElem_toArray, List.getElem_cons_zero, List.getElem_cons_succ]
            refine RG.RunsIf.weak (v := ?_) (by rfl) (by rfl) (fun Z hT => ?_) ?_
            rotate_left
            · have c : Z.cell? ⟨g, 1, none⟩ = some (.int .u64 PP.d) := hT.1 1 (by decide) (by decide)
              go_simp
              rfl
            simp only [Act.put, List.setIfInBounds_toArray, List.set_cons_zero, List.set_cons_succ, List.getElem_toArray, List.getElem_cons_zero, List.getElem_cons_succ]
            refine RG.RunsIf.weak (v := ?_) (by rfl) (by rfl) (fun Z hT => ?_) ?_
            rotate_left
            · skip
              go_simp
              rfl
            simp only [Act.put, List.setIfInBounds_toArray, List.set_cons_zero, List.set_cons_succ, List.getElem_toArray, List.getElem_cons_zero, List.getElem_cons_succ]
            refine RG.RunsIf.weak (v := ?_) (by rfl) (by rfl) (fun Z hT => ?_) ?_
            rotate_left
            · skip
              go_simp
              rfl
            simp only [Act.put, List.setIfInBounds_toArray, List.set_cons_zero, List.set_cons_succ, List.getElem_toArray, List.getElem_cons_zero, List.getElem_cons_succ]
            refine RG.RunsIf.weak (v := ?_) (by rfl) (by rfl) (fun Z hT => ?_) ?_
            rotate_left
            · skip
              go_simp
              rfl
            simp only [Act.put, List.setIfInBounds_toArray, List.set_cons_zero, List.set_cons_succ, List.getElem_toArray, List.getElem_cons_zero, List.getElem_cons_succ]
            refine RG.RunsIf.weak (v := ?_) (by rfl) (by rfl) (fun Z hT => ?_) ?_
            rotate_left
            · have c : Z.cell? ⟨g, 2, none⟩ = some (.int .u64 PP.k) := hT.1 2 (by decide) (by decide)
              go_simp
              rfl
            simp only [Act.put, List.setIfInBounds_toArray, List.set_cons_zero, List.set_cons_succ, List.getElem_toArray, List.getElem_cons_zero, List.getElem_cons_succ]
            refine RG.RunsIf.weak (v := ?_) (by rfl) (by rfl) (fun Z hT => ?_) ?_
            rotate_left
            · skip
              go_simp
              rfl
            simp only [Act.put, List.setIfInBounds_toArray, List.set_cons_zero, List.set_cons_succ, List.getElem_toArray, List.getElem_cons_zero, List.getElem_cons_succ]
            refine RG.RunsIf.weak (v := ?_) (by rfl) (by rfl) (fun Z hT => ?_) ?_
            rotate_left
            · skip
              go_simp
              rfl
            simp only [Act.put, List.setIfInBounds_toArray, List.set_cons_zero, List.set_cons_succ, List.getElem_toArray, List.getElem_cons_zero, List.getElem_cons_succ]
            refine RG.RunsIf.weak (v := ?_) (by rfl) (by rfl) (fun Z hT => ?_) ?_
            rotate_left
            · skip
              go_simp
              rfl
            simp only [Act.put, List.setIfInBounds_toArray, List.set_cons_zero, List.set_cons_succ, List.getElem_toArray, List.getElem_cons_zero, List.getElem_cons_succ]
            refine RG.RunsIf.weak (v := ?_) (by rfl) (by rfl) (fun Z hT => ?_) ?_
            rotate_left
            · have c : Z.cell? ⟨g, 3, none⟩ = some (.int .u64 PP.f) := hT.1 3 (by decide) (by decide)
              go_simp
              rfl
            simp only [Act.put, List.setIfInBounds_toArray, List.set_cons_zero, List.set_cons_succ, List.getElem_toArray, List.getElem_cons_zero, List.getElem_cons_succ]
            refine RG.RunsIf.weak (v := ?_) (by rfl) (by rfl) (fun Z hT => ?_) ?_
            rotate_left
            · skip
              go_simp
              rfl
            simp only [Act.put, List.setIfInBounds_toArray, List.set_cons_zero, List.set_cons_succ, List.getElem_toArray, List.getElem_cons_zero, List.getElem_cons_succ]
            refine RG.RunsIf.weak (v := ?_) (by rfl) (by rfl) (fun Z hT => ?_) ?_
            rotate_left
            · skip
              go_simp
              rfl
            simp only [Act.put, List.setIfInBounds_toArray, List.set_cons_zero, List.set_cons_succ, List.getElem_toArray, List.getElem_cons_zero, List.getElem_cons_succ]
            refine RG.RunsIf.weak (v := ?_) (by rfl) (by rfl) (fun Z hT => ?_) ?_
            rotate_left
            · skip
              go_simp
              rfl
            simp only [Act.put, List.setIfInBounds_toArray, List.set_cons_zero, List.set_cons_succ, List.getElem_toArray, List.getElem_cons_zero, List.getElem_cons_succ]
            refine RG.RunsIf.weak (v := ?_) (by rfl) (by rfl) (fun Z hT => ?_) ?_
            rotate_left
            · have c : Z.cell? ⟨g, 4, none⟩ = some (.int .u64 PP.dp) := hT.1 4 (by decide) (by decide)
              go_simp
              rfl
            simp only [Act.put, List.setIfInBounds_toArray, List.set_cons_zero, List.set_cons_succ, List.getElem_toArray, List.getElem_cons_zero, List.getElem_cons_succ]
            refine RG.RunsIf.weak (v := ?_) (by rfl) (by rfl) (fun Z hT => ?_) ?_
            rotate_left
            · skip
              go_simp
              rfl
            simp only [Act.put, List.setIfInBounds_toArray, List.set_cons_zero, List.set_cons_succ, List.getElem_toArray, List.getElem_cons_zero, List.getElem_cons_succ]
            refine RG.RunsIf.weak (v := ?_) (by rfl) (by rfl) (fun Z hT => ?_) ?_
            rotate_left
            · skip
              go_simp
              rfl
            simp only [Act.put, List.setIfInBounds_toArray, List.set_cons_zero, List.set_cons_succ, List.getElem_toArray, List.getElem_cons_zero, List.getElem_cons_succ]
            refine RG.RunsIf.weak (v := ?_) (by rfl) (by rfl) (fun Z hT => ?_) ?_
            rotate_left
            · skip
              go_simp
              rfl
            simp only [Act.put, List.setIfInBounds_toArray, List.set_cons_zero, List.set_cons_succ, List.getElem_toArray, List.getElem_cons_zero, List.getElem_cons_succ]
            refine RG.RunsIf.weak (v := ?_) (by rfl) (by rfl) (fun Z hT => ?_) ?_
            rotate_left
            · have c : Z.cell? ⟨g, 5, none⟩ = some (.int .u64 PP.lf) := hT.1 5 (by decide) (by decide)
              go_simp
              rfl
            simp only [Act.put, List.setIfInBounds_toArray, List.set_cons_zero, List.set_cons_succ, List.getElem_toArray, List.getElem_cons_zero, List.getElem_cons_succ]
            refine RG.RunsIf.weak (v := ?_) (by rfl) (by rfl) (fun Z hT => ?_) ?_
            rotate_left
            · skip
              go_simp
              rfl
            simp only [Act.put, List.setIfInBounds_toArray, List.set_cons_zero, List.set_cons_succ, List.getElem_toArray, List.getElem_cons_zero, List.getElem_cons_succ]
            refine RG.RunsIf.weak (v := ?_) (by rfl) (by rfl) (fun Z hT => ?_) ?_
            rotate_left
            · skip
              go_simp
              rfl
            simp only [Act.put, List.setIfInBounds_toArray, List.set_cons_zero, List.set_cons_succ, List.getElem_toArray, List.getElem_cons_zero, List.getElem_cons_succ]
            refine RG.RunsIf.weak (v := ?_) (by rfl) (by rfl) (fun Z hT => ?_) ?_
            rotate_left
            · skip
              go_simp
              rfl
            simp only [Act.put, List.setIfInBounds_toArray, List.set_cons_zero, List.set_cons_succ, List.getElem_toArray, List.getElem_cons_zero, List.getElem_cons_succ]
            refine RG.RunsIf.weak (v := ?_) (by rfl) (by rfl) (fun Z hT => ?_) ?_
            rotate_left
            · have c : Z.cell? ⟨g, 6, none⟩ = some (.int .u64 PP.off) := hT.1 6 (by decide) (by decide)
              go_simp
              rfl
            simp only [Act.put, List.setIfInBounds_toArray, List.set_cons_zero, List.set_cons_succ, List.getElem_toArray, List.getElem_cons_zero, List.getElem_cons_succ]
            refine RG.RunsIf.weak (v := ?_) (by rfl) (by rfl) (fun Z hT => ?_) ?_
            rotate_left
            · skip
              go_simp
              rfl
            simp only [Act.put, List.setIfInBounds_toArray, List.set_cons_zero, List.set_cons_succ, List.getElem_toArray, List.getElem_cons_zero, List.getElem_cons_succ]
            refine RG.RunsIf.weak (v := ?_) (by rfl) (by rfl) (fun Z hT => ?_) ?_
            rotate_left
            · skip
              go_simp
              rfl
            simp only [Act.put, List.setIfInBounds_toArray, List.set_cons_zero, List.set_cons_succ, List.getElem_toArray, List.getElem_cons_zero, List.getElem_cons_succ]
            refine RG.RunsIf.weak (v := ?_) (by rfl) (by rfl) (fun Z hT => ?_) ?_
            rotate_left
            · have c : Z.cell? ⟨g, 7, none⟩ = some (.int .u64 PP.xof) := hT.1 7 (by decide) (by decide)
              go_simp
              rfl
            simp only [Act.put, List.setIfInBounds_toArray, List.set_cons_zero, List.set_cons_succ, List.getElem_toArray, List.getElem_cons_zero, List.getElem_cons_succ]
            refine RG.RunsIf.weak (v := ?_) (by rfl) (by rfl) (fun Z hT => ?_) ?_
            rotate_left
            · skip
              go_simp
              rfl
            simp only [Act.put, List.setIfInBounds_toArray, List.set_cons_zero, List.set_cons_succ, List.getElem_toArray, List.getElem_cons_zero, List.getElem_cons_succ]
            refine RG.RunsIf.weak (v := ?_) (by rfl) (by rfl) (fun Z hT => ?_) ?_
            rotate_left
            · skip
              go_simp
              rfl
            simp only [Act.put, List.setIfInBounds_toArray, List.set_cons_zero, List.set_cons_succ, List.getElem_toArray, List.getElem_cons_zero, List.getElem_cons_succ]
            refine RG.RunsIf.weak (v := ?_) (by rfl) (by rfl) (fun Z hT => ?_) ?_
            rotate_left
            · skip
              go_simp
              rfl
            simp only [Act.put, List.setIfInBounds_toArray, List.set_cons_zero, List.set_cons_succ, List.getElem_toArray, List.getElem_cons_zero, List.getElem_cons_succ]
            refine RG.RunsIf.weak (v := ?_) (by rfl) (by rfl) (fun Z hT => ?_) ?_
            rotate_left
            · have c : Z.cell? ⟨g, 8, none⟩ = some (.int .u64 PP.nd) := hT.1 8 (by decide) (by decide)
              go_simp
              rfl
            simp only [Act.put, List.setIfInBounds_toArray, List.set_cons_zero, List.set_cons_succ, List.getElem_toArray, List.getElem_cons_zero, List.getElem_cons_succ]
            refine RG.RunsIf.weak (v := ?_) (by rfl) (by rfl) (fun Z hT => ?_) ?_
            rotate_left
            · skip
              go_simp
              rfl
            simp only [Act.put, List.setIfInBounds_toArray, List.set_cons_zero, List.set_cons_succ, List.getElem_toArray, List.getElem_cons_zero, List.getElem_cons_succ]
            refine RG.RunsIf.weak (v := ?_) (by rfl) (by rfl) (fun Z hT => ?_) ?_
            rotate_left
            · skip
              go_simp
              rfl
            simp only [Act.put, List.setIfInBounds_toArray, List.set_cons_zero, List.set_cons_succ, List.getElem_toArray, List.getElem_cons_zero, List.getElem_cons_succ]
            refine RG.RunsIf.weak (v := ?_) (by rfl) (by rfl) (fun Z hT => ?_) ?_
            rotate_left
            · skip
              go_simp
              rfl
            simp only [Act.put, List.setIfInBounds_toArray, List.set_cons_zero, List.set_cons_succ, List.getElem_toArray, List.getElem_cons_zero, List.getElem_cons_succ]
            refine RG.RunsIf.weak (v := ?_) (by rfl) (by rfl) (fun Z hT => ?_) ?_
            rotate_left
            · have c : Z.cell? ⟨g, 9, none⟩ = some (.int .u64 PP.inn) := hT.1 9 (by decide) (by decide)
              go_simp
              rfl
            simp only [Act.put, List.setIfInBounds_toArray, List.set_cons_zero, List.set_cons_succ, List.getElem_toArray, List.getElem_cons_zero, List.getElem_cons_succ]
            refine RG.RunsIf.weak (v := ?_) (by rfl) (by rfl) (fun Z hT => ?_) ?_
            rotate_left
            · skip
              go_simp
              rfl
            simp only [Act.put, List.setIfInBounds_toArray, List.set_cons_zero, List.set_cons_succ, List.getElem_toArray, List.getElem_cons_zero, List.getElem_cons_succ]
            refine RG.RunsIf.weak (v := ?_) (by rfl) (by rfl) (fun Z hT => ?_) ?_
            rotate_left
            · skip
              go_simp
              rfl
            simp only [Act.put, List.setIfInBounds_toArray, List.set_cons_zero, List.set_cons_succ, List.getElem_toArray, List.getElem_cons_zero, List.getElem_cons_succ]
            refine RG.RunsIf.weak (v := ?_) (by rfl) (by rfl) (fun Z hT => ?_) ?_
            rotate_left
            · skip
              go_simp
              rfl
            simp only [Act.put, List.setIfInBounds_toArray, List.set_cons_zero, List.set_cons_succ, List.getElem_toArray, List.getElem_cons_zero, List.getElem_cons_succ]
            refine RG.RunsIf.weak (v := ?_) (by rfl) (by rfl) (fun Z hT => ?_) ?_
            rotate_left
            · skip
              go_simp
              rfl
            simp only [Act.put, List.setIfInBounds_toArray, List.set_cons_zero, List.set_cons_succ, List.getElem_toArray, List.getElem_cons_zero, List.getElem_cons_succ]
            refine RG.RunsIf.weak (v := ?_) (by rfl) (by rfl) (fun Z hT => ?_) ?_
            rotate_left
            · skip
              go_simp
              rfl
            simp only [Act.put, List.setIfInBounds_toArray, List.set_cons_zero, List.set_cons_succ, List.getElem_toArray, List.getElem_cons_zero, List.getElem_cons_succ]
            refine RG.RunsIf.weak (v := ?_) (by rfl) (by rfl) (fun Z hT => ?_) ?_
            rotate_left
            · skip
              go_simp
              rfl
            simp only [Act.put, List.setIfInBounds_toArray, List.set_cons_zero, List.set_cons_succ, List.getElem_toArray, List.getElem_cons_zero, List.getElem_cons_succ]
            refine RG.RunsIf.weak (v := ?_) (by rfl) (by rfl) (fun Z hT => ?_) ?_
            rotate_left
            · skip
              go_simp
              rfl
            simp only [Act.put, List.setIfInBounds_toArray, List.set_cons_zero, List.set_cons_succ, List.getElem_toArray, List.getElem_cons_zero, List.getElem_cons_succ]
            refine RG.RunsIf.weak (v := ?_) (by rfl) (by rfl) (fun Z hT => ?_) ?_
            rotate_left
            · skip
              go_simp
              rfl
            simp only [Act.put, List.setIfInBounds_toArray, List.set_cons_zero, List.set_cons_succ, List.getElem_toArray, List.getElem_cons_zero, List.getElem_cons_succ]
            refine RG.RunsIf.weak (v := ?_) (by rfl) (by rfl) (fun Z hT => ?_) ?_
            rotate_left
            · skip
              go_simp
              rfl
            simp only [Act.put, List.setIfInBounds_toArray, List.set_cons_zero, List.set_cons_succ, List.getElem_toArray, List.getElem_cons_zero, List.getElem_cons_succ]
            refine RG.RunsIf.weak (v := ?_) (by rfl) (by rfl) (fun Z hT => ?_) ?_
            rotate_left
            · skip
              go_simp
              rfl
            simp only [Act.put, List.setIfInBounds_toArray, List.set_cons_zero, List.set_cons_succ, List.getElem_toArray, List.getElem_cons_zero, List.getElem_cons_succ]
            refine RG.RunsIf.weak (v := ?_) (by rfl) (by rfl) (fun Z hT => ?_) ?_
            rotate_left
            · skip
              go_simp
              rfl
            simp only [Act.put, List.setIfInBounds_toArray, List.set_cons_zero, List.set_cons_succ, List.getElem_toArray, List.getElem_cons_zero, List.getElem_cons_succ]
            refine RG.RunsIf.weak (v := ?_) (by rfl) (by rfl) (fun Z hT => ?_) ?_
            rotate_left
            · skip
              go_simp
              rfl
            simp only [Act.put, List.setIfInBounds_toArray, List.set_cons_zero, List.set_cons_succ, List.getElem_toArray, List.getElem_cons_zero, List.getElem_cons_succ]
            refine RG.RunsIf.weak (v := ?_) (by rfl) (by rfl) (fun Z hT => ?_) ?_
            rotate_left
            · skip
              go_simp
              rfl
            simp only [Act.put, List.setIfInBounds_toArray, List.set_cons_zero, List.set_cons_succ, List.getElem_toArray, List.getElem_cons_zero, List.getElem_cons_succ]
            refine RG.RunsIf.weak (v := ?_) (by rfl) (by rfl) (fun Z hT => ?_) ?_
            rotate_left
            · skip
              go_simp
              rfl
            simp only [Act.put, List.setIfInBounds_toArray, List.set_cons_zero, List.set_cons_succ, List.getElem_toArray, List.getElem_cons_zero, List.getElem_cons_succ]
            exact RG.RunsIf.nil
          refine RG.wpL_step (i := 48) (by kernel_rfl) (by rfl) (by rfl) (fun K hK => ?_)
          have HK := TW.hide hK
          clear hK
          go_simp
          have hn := heap_new Y2 (.cells #[.int .i64 0, .int .i64 0, .int .i64 0, .int .i64 0, .int .u32 0, .int .u64 0, .int .u32 0, .int .i64 0, .int .i64 0, .slice none 0 0, .slice none 0 0] 26)
          have ba := (Below.refl Y2.heap.size Y2).alloc (Nat.le_refl _) (.cells #[.int .i64 0, .int .i64 0, .int .i64 0, .int .i64 0, .int .u32 0, .int .u64 0, .int .u32 0, .int .i64 0, .int .i64 0, .slice none 0 0, .slice none 0 0] 26)
          have HT1 : Hid ((∀ i : Nat, 1 ≤ i → i ≤ 9 → (Y2.alloc (.cells #[.int .i64 0, .int .i64 0, .int .i64 0, .int .i64 0, .int .u32 0, .int .u64 0, .int .u32 0, .int .i64 0, .int .i64 0, .slice none 0 0, .slice none 0 0] 26)).cell? ⟨g, i, none⟩ = some (.int .u64 (PP.nv i))) ∧ (Y2.alloc (.cells #[.int .i64 0, .int .i64 0, .int .i64 0, .int .i64 0, .int .u32 0, .int .u64 0, .int .u32 0, .int .i64 0, .int .i64 0, .slice none 0 0, .slice none 0 0] 26)).heap[B]? = some (.cells (pcP Pm.zero (.slice none 0 0) (.slice none 0 0)) 26 (0, 0)) ∧ Below B w (Y2.alloc (.cells #[.int .i64 0, .int .i64 0, .int .i64 0, .int .i64 0, .int .u32 0, .int .u64 0, .int .u32 0, .int .i64 0, .int .i64 0, .slice none 0 0, .slice none 0 0] 26)) ∧ g < (Y2.alloc (.cells #[.int .i64 0, .int .i64 0, .int .i64 0, .int .i64 0, .int .u32 0, .int .u64 0, .int .u32 0, .int .i64 0, .int .i64 0, .slice none 0 0, .slice none 0 0] 26)).heap.size) := ⟨fun i h1 h9 => by rw [ba.cell HT0.out.2.2.2]; exact HT0.out.1 i h1 h9, blk_keep HT0.out.2.1 ba, below_row HT0.out.2.2.1 ba (by have := blk_lt HT0.out.2.1; omega), by simp; have := HT0.out.2.2.2; omega⟩
          refine HK.out _ _ HT1.out (fun _ => trivial) ?_
          clear HK K ba
          have hBh : B < Y2.heap.size := blk_lt HT0.out.2.1
          have hgh : g < Y2.heap.size := HT0.out.2.2.2
          clear HT0
          generalize Y2.alloc (.cells #[.int .i64 0, .int .i64 0, .int .i64 0, .int .i64 0, .int .u32 0, .int .u64 0, .int .u32 0, .int .i64 0, .int .i64 0, .slice none 0 0, .slice none 0 0] 26) = Y3 at *
          have HN := TW.hide hn
          clear hn
          generalize Y2.heap.size = h at *
          refine RG.wpL_step (i := 49) (by kernel_rfl) (by rfl) (by rfl) (fun K hK => ?_)
          have HK := TW.hide hK
          clear hK
          refine wp_store_row 26 _ _ (by rfl) h (pcP PP (.slice (some ⟨b, off + 16, none⟩) 8 (cap - 16)) (.slice (some ⟨b, off + 24, none⟩) 8 (cap - 24))) (by rfl) (by rfl) 26 _ HN.out (info31 _ _ _) (pc_size Pm.zero _ _ _ _ _) (pc_one _ _ _ _ _ _ _) ?_
          have HT2 : Hid ((∀ i : Nat, 1 ≤ i → i ≤ 9 → (Y3.setRow h (pcP PP (.slice (some ⟨b, off + 16, none⟩) 8 (cap - 16)) (.slice (some ⟨b, off + 24, none⟩) 8 (cap - 24)))).cell? ⟨g, i, none⟩ = some (.int .u64 (PP.nv i))) ∧ (Y3.setRow h (pcP PP (.slice (some ⟨b, off + 16, none⟩) 8 (cap - 16)) (.slice (some ⟨b, off + 24, none⟩) 8 (cap - 24)))).heap[B]? = some (.cells (pcP Pm.zero (.slice none 0 0) (.slice none 0 0)) 26 (0, 0)) ∧ Below B w (Y3.setRow h (pcP PP (.slice (some ⟨b, off + 16, none⟩) 8 (cap - 16)) (.slice (some ⟨b, off + 24, none⟩) 8 (cap - 24)))) ∧ g < (Y3.setRow h (pcP PP (.slice (some ⟨b, off + 16, none⟩) 8 (cap - 16)) (.slice (some ⟨b, off + 24, none⟩) 8 (cap - 24)))).heap.size) := ⟨fun i h1 h9 => by rw [cell_setRow_other (by omega)]; exact HT1.out.1 i h1 h9, by rw [setRow_other _ _ _ _ (by omega)]; exact HT1.out.2.1, below_setRow HT1.out.2.2.1 (by omega), by simpa using HT1.out.2.2.2⟩
          have NH : Hid ((Y3.setRow h (pcP PP (.slice (some ⟨b, off + 16, none⟩) 8 (cap - 16)) (.slice (some ⟨b, off + 24, none⟩) 8 (cap - 24)))).heap[h]? = some (.cells (pcP PP (.slice (some ⟨b, off + 16, none⟩) 8 (cap - 16)) (.slice (some ⟨b, off + 24, none⟩) 8 (cap - 24))) 26 (0, 0))) := setRow_heap _ _ _ _ _ _ HN.out
          refine HK.out _ _ HT2.out (fun _ => trivial) ?_
          clear HK K HT1 HN
          generalize Y3.setRow h (pcP PP (.slice (some ⟨b, off + 16, none⟩) 8 (cap - 16)) (.slice (some ⟨b, off + 24, none⟩) 8 (cap - 24))) = Y4 at *
          refine RG.wpL_done (by kernel_rfl) ?_ _
          refine NoPanic.normal ?_
          refine HKK.out _ _ ?_
          clear HKK KK
          go_wp2_with (refine wpList_load_row (by rfl) 26 _ (by rfl) (h) (by rfl) 26 (pcP PP (.slice (some ⟨b, off + 16, none⟩) 8 (cap - 16)) (.slice (some ⟨b, off + 24, none⟩) 8 (cap - 24))) (0, 0) _ NH.out Try.underlying26 rfl (info31 _ _ _) ?_)
          refine (H20.out _ HT2.out.2.2.1).mono ?_
          rintro e w9 ⟨u, v, rfl, ou, ov, hb9⟩
          have hsz := blk_lt HT2.out.2.1
          have M0 := TW.hide (blk_keep HT2.out.2.1 hb9)
          have MB : Hid (Below B w w9) := below_row HT2.out.2.2.1 hb9 (by omega)
          obtain ⟨ua, uc, rfl⟩ := own_form ou
          obtain ⟨va, vc, rfl⟩ := own_form ov
          have OU := TW.hide (own_mono' (own_setRow (cs := pcP (nP EE PP) (.slice ua (nS EE (saL 2 zs)).length uc) (.slice va (nS EE (peL 2 zs)).length vc)) ou hsz) (show B ≤ Y4.heap.size by omega))
          have OV := TW.hide (own_mono' (own_setRow (cs := pcP (nP EE PP) (.slice ua (nS EE (saL 2 zs)).length uc) (.slice va (nS EE (peL 2 zs)).length vc)) ov hsz) (show B ≤ Y4.heap.size by omega))
          clear hb9 NH HT2 ou ov
          go_wp2_with (refine wpList_store_row (by rfl) 26 _ _ (by rfl) (B) (pcP (nP EE PP) (.slice ua (nS EE (saL 2 zs)).length uc) (.slice va (nS EE (peL 2 zs)).length vc)) (by rfl) (by rfl) 26 _ M0.out (info31 _ _ _) (pc_size _ _ _ _ _ _) (pc_one _ _ _ _ _ _ _) ?_)
          refine bodyPost_ret (v := .tuple #[.agg (pcP (nP EE PP) (.slice ua (nS EE (saL 2 zs)).length uc) (.slice va (nS EE (peL 2 zs)).length vc)), .int .i64 EE]) (results_row_tmp (P := Try.prog) Try.results13 _ _ B 26 _ (0, 0) _ _ (by rfl) (by rfl) (setRow_heap _ _ _ _ _ _ M0.out) Try.underlying26 rfl (info31 _ _ _)) rfl ?_
          have e1 := HEE.out
          have e2 := HPP.out
          subst e1 e2
          rw [HEQ.out]
          exact ⟨_, _, rfl, OU.out, OV.out, below_setRow MB.out (Nat.le_refl _)⟩
end LW
end Go.Proofs.Ytomdplcmbcjkfaa
