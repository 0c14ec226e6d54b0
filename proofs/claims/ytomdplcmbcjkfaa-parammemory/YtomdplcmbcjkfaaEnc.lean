/-
  What the call Encode (the program) gives, for all parameters.
-/
import Derived.Test.YtomdplcmbcjkfaaEncL
namespace Go.Proofs.Ytomdplcmbcjkfaa
open Go.RowKit
set_option linter.unusedVariables false
set_option linter.unusedSimpArgs false
namespace LW
open Words
attribute [local go_sem ↓] Go.wp_at_zero Go.wp_at_succ
theorem mk29 (n : Nat) (h : n ≤ 64) (w : World) : (Instr.makeSlice 24 (.int .i64 (n : Int)) (.int .i64 (n : Int))).run Try.prog w = .ok (.slice (some ⟨w.heap.size, 0, none⟩) n n) (w.alloc (.cells (vs (List.replicate n 0)).toArray 5)) := by
  obtain ⟨i0, hi, hz0, hz1, hz2⟩ := info_parts info5
  have h1 := run_makeSlice (P := Try.prog) w 24 5 i0 (.int .u8 0) Try.underlying24 hi hz0 .i64 .i64 (n : Int) (n : Int) (by omega) (by omega) (by rw [hz1]; omega) (by rw [hz2]; omega) (by omega)
  rw [hz1] at h1
  simp only [Int.toNat_natCast] at h1
  have e : madeCells (Value.int .u8 0).cells (n * 1) = (vs (List.replicate n 0)).toArray := by
    apply Array.ext'
    rw [made_vs]
  rw [e] at h1
  exact h1
theorem own_of_blk {w : World} {g B : Nat} {l : List Int} (h : w.heap[g]? = some (.cells (vs l).toArray 5 (0, 0))) (hB : B ≤ g) (hm : l.length ≤ maxLen) : w.ownsRow B 5 1 (.slice (some ⟨g, 0, none⟩) l.length l.length) l.length (vs l) :=
  ⟨by rw [vs_length, Nat.mul_one], .inr ⟨g, l.length, (vs l).toArray, rfl, hB, h, Nat.le_refl _, hm, by simp [vs_length], by rw [List.toList_toArray]; exact List.take_of_length_le (by rw [vs_length]; omega)⟩⟩
theorem blk_of_own {w : World} {g B n : Nat} {l : List Int} (h : w.ownsRow B 5 1 (.slice (some ⟨g, 0, none⟩) n n) n (vs l)) (hl : l.length = n) : w.heap[g]? = some (.cells (vs l).toArray 5 (0, 0)) := by
  rcases h.2 with ⟨e, _⟩ | ⟨g', cap, cur, e, hg, hh, hn, hm, hc, ht⟩
  · cases e
  · injection e with e1 e2 e3
    injection e1 with e1
    injection e1 with e1
    subst e1 e3
    rw [hh]
    have : cur = (vs l).toArray := by
      apply Array.ext'
      rw [← ht, List.take_of_length_le (by rw [Array.length_toList, hc]; omega)]
    rw [this]
theorem layB (g : Nat) (l : List Int) (j n : Nat) (v : Int) (w : World) (h : w.heap[g]? = some (.cells (vs l).toArray 5 (0, 0))) (hm : l.length ≤ 64) (hn8 : n ≤ 8) (hl : j + n ≤ l.length) (v0 : 0 ≤ v) (v1 : v < 18446744073709551616) :
    Calls Try.prog 22 #[.agg #[.int .i64 j, .int .i64 n], .slice (some ⟨g, 0, none⟩) l.length l.length, .int .u64 v] w fun e w' => e = .returned (.tuple #[]) ∧ w'.heap[g]? = some (.cells (vs (ly l j n v)).toArray 5 (0, 0)) ∧ Below g w w' := by
  have hlt := blk_lt h
  refine (lay g l.length l j n v g w (own_of_blk h (Nat.le_refl _) (by unfold maxLen; omega)) (Nat.le_refl _) (by omega) hlt (by omega) hn8 hl v0 v1).mono ?_
  rintro e w' ⟨rfl, ho, hb⟩
  exact ⟨rfl, blk_of_own ho (ly_length l j n v hl), hb⟩
theorem nv_bd (p : Pm) (hp : p.Ok) (hm : p.May) (f : Int) : 0 ≤ p.nv f ∧ p.nv f < 18446744073709551616 := by
  obtain ⟨o0, o1, x0, x1, l0, l1⟩ := hp
  obtain ⟨d0, d1, k0, k1, f0, f1, e0, e1, n0, n1, i0, i1⟩ := hm
  unfold Pm.nv LW.nv
  repeat' split
  all_goals omega
set_option maxRecDepth 100000 in
set_option maxHeartbeats 4000000 in
theorem encE (kd : Int) (p : Pm) (hp : p.Ok) (sa ta : Option Addr) (sc tc : Nat) (s t : List Int) (w : World) (hE : (p.ck kd s.length t.length != 0) = true) :
    Calls Try.prog 7 #[.int .i64 kd, .agg (pcP p (.slice sa s.length sc) (.slice ta t.length tc))] w fun e w' => e = .returned (.tuple #[(.slice none 0 0), .int .i64 (p.ck kd s.length t.length)]) ∧ Below w.heap.size w w' := by
  have H16 := TW.hide (fun W => checkP kd p hp sa ta s.length sc t.length tc W)
  generalize p.ck kd s.length t.length = E at *
  have hb := ((Below.refl w.heap.size w).alloc (Nat.le_refl _) (.cells (pcP p (.slice sa s.length sc) (.slice ta t.length tc)) 26))
  have n0 := (heap_new w (.cells (pcP p (.slice sa s.length sc) (.slice ta t.length tc)) 26))
  go_enter Try.func7, Try.ntmps7
  refine wp_seq_k fun K hK => ?_
  have HK := TW.hide hK
  clear hK
  go_wp2
  refine HK.out _ _ ?_
  clear HK K
  change Code.wp _ _ _ _ (w.alloc (.cells (pcP p (.slice sa s.length sc) (.slice ta t.length tc)) 26))
  generalize hWW : w.alloc (.cells (pcP p (.slice sa s.length sc) (.slice ta t.length tc)) 26) = W at hb n0 ⊢
  have hW : W.heap.size = w.heap.size + 1 := by rw [← hWW]; simp
  clear hWW
  generalize hB : w.heap.size = B at *
  have N0 := TW.hide n0
  have NB := TW.hide hb
  clear n0 hb
  clear hW
  go_wp2_with (refine wpList_load_row (by rfl) 26 _ (by rfl) (B) (by rfl) 26 (pcP p (.slice sa s.length sc) (.slice ta t.length tc)) (0, 0) _ N0.out Try.underlying26 rfl (info31 _ _ _) ?_)
  refine (H16.out _).mono ?_
  rintro e w1 ⟨rfl, hb1⟩
  have MB : Hid (Below B w w1) := below_row NB.out hb1 (by have := blk_lt N0.out; omega)
  clear hb1 N0 NB
  go_wp2
  go_ret2
  exact ⟨rfl, MB.out⟩
set_option maxRecDepth 100000 in
set_option maxHeartbeats 8000000 in
theorem encOk (kd : Int) (p : Pm) (hp : p.Ok) (sa ta : Option Addr) (sc tc : Nat) (s t : List Int) (w : World) (hck : p.ck kd s.length t.length = 0) (h1 : Pb w sa sc s) (h2 : Pb w ta tc t) :
    Calls Try.prog 7 #[.int .i64 kd, .agg (pcP p (.slice sa s.length sc) (.slice ta t.length tc))] w fun e w' => ∃ g, e = .returned (.tuple #[.slice (some ⟨g, 0, none⟩) (enL kd p s t).length (enL kd p s t).length, .int .i64 0]) ∧ w.heap.size ≤ g ∧ w'.heap[g]? = some (.cells (vs (enL kd p s t)).toArray 5 (0, 0)) ∧ Below w.heap.size w w' := by
  have H16 : Hid (∀ W, Calls Try.prog 17 #[.int .i64 kd, .agg (pcP p (.slice sa s.length sc) (.slice ta t.length tc))] W fun e w' => e = .returned (.int .i64 0) ∧ Below W.heap.size W w') := fun W => by
    have := checkP kd p hp sa ta s.length sc t.length tc W
    rwa [hck] at this
  have hk := ck_kind hck
  have hmay := may_of_ck hck
  have hmo : mo kd = ((mo kd).toNat : Int) := by rcases hk with rfl | rfl <;> rfl
  have hmo2 : 32 ≤ (mo kd).toNat ∧ (mo kd).toNat ≤ 64 := by rcases hk with rfl | rfl <;> decide
  have H9 : Hid (∀ W, Calls Try.prog 20 #[.int .i64 kd] W fun e w' => e = .returned (.tuple #[.int .i64 ((mo kd).toNat : Int), .int .i64 (ke kd)]) ∧ Below W.heap.size W w') := fun W => by
    have := size kd W
    rwa [hmo] at this
  generalize hN : (mo kd).toNat = n at *
  have hb := ((Below.refl w.heap.size w).alloc (Nat.le_refl _) (.cells (pcP p (.slice sa s.length sc) (.slice ta t.length tc)) 26))
  have n0 := (heap_new w (.cells (pcP p (.slice sa s.length sc) (.slice ta t.length tc)) 26))
  go_enter Try.func7, Try.ntmps7
  refine wp_seq_k fun K hK => ?_
  have HK := TW.hide hK
  clear hK
  go_wp2
  refine HK.out _ _ ?_
  clear HK K
  change Code.wp _ _ _ _ (w.alloc (.cells (pcP p (.slice sa s.length sc) (.slice ta t.length tc)) 26))
  generalize hWW : w.alloc (.cells (pcP p (.slice sa s.length sc) (.slice ta t.length tc)) 26) = W at hb n0 ⊢
  have hW : W.heap.size = w.heap.size + 1 := by rw [← hWW]; simp
  clear hWW
  generalize hB : w.heap.size = B at *
  have N0 := TW.hide n0
  have NB := TW.hide hb
  clear n0 hb
  clear hW
  have h00 : ((0 : Int) != 0) = false := rfl
  refine wp_seq_k fun KK hK => ?_
  have HK := TW.hide hK
  clear hK
  go_wp2_with (refine wpList_load_row (by rfl) 26 _ (by rfl) (B) (by rfl) 26 (pcP p (.slice sa s.length sc) (.slice ta t.length tc)) (0, 0) _ N0.out Try.underlying26 rfl (info31 _ _ _) ?_)
  refine (H16.out _).mono ?_
  rintro e w1 ⟨rfl, hb1⟩
  have M0 := TW.hide (blk_keep N0.out hb1)
  have MB : Hid (Below B w w1) := below_row NB.out hb1 (by have := blk_lt N0.out; omega)
  clear hb1 N0 NB
  go_wp2
  refine HK.out _ _ ?_
  clear HK KK
  refine wp_seq_k fun KK hK => ?_
  have HK := TW.hide hK
  clear hK
  go_wp2_with fail
  refine (H9.out _).mono ?_
  rintro e w2 ⟨rfl, hb2⟩
  have N0 := TW.hide (blk_keep M0.out hb2)
  have NB : Hid (Below B w w2) := below_row MB.out hb2 (by have := blk_lt M0.out; omega)
  clear hb2 M0 MB
  go_wp2
  refine HK.out _ _ ?_
  clear HK KK
  refine wp_seq_k fun KK hK => ?_
  have HK := TW.hide hK
  clear hK
  have hmk := mk29 n hmo2.2 w2
  go_wp2
  clear hmk
  have nx := heap_new w2 (.cells (vs (List.replicate n 0)).toArray 5)
  have bx := (Below.refl w2.heap.size w2).alloc (Nat.le_refl _) (.cells (vs (List.replicate n 0)).toArray 5)
  generalize w2.alloc (.cells (vs (List.replicate n 0)).toArray 5) = X at nx bx ⊢
  have hBg := blk_lt N0.out
  have M0 := TW.hide (blk_keep N0.out bx)
  have MB : Hid (Below B w X) := below_row NB.out bx (by omega)
  have MG : Hid (X.heap[w2.heap.size]? = some (.cells (vs (enP kd p 0)).toArray 5 (0, 0))) := by show _ = _; rw [nx]; unfold enP; rw [hN]
  clear nx bx N0 NB
  generalize w2.heap.size = g at *
  refine HK.out _ _ ?_
  clear HK KK
  have hlen := TW.hide (fun k h => (enP_length kd p hk k h).trans hN)
  have HBD := TW.hide (fun f => nv_bd p hp hmay f)
  have H40 := TW.hide (fun (k : Nat) (W : World) (h1 : k ≤ 8) => placeOf ((k + 1 : Nat) : Int) kd (p.xof != 0) W (by omega) (by omega))
  have H45 := TW.hide (fun (k : Nat) (W : World) (h1 : k ≤ 8) => numberP p hp hmay sa ta s.length t.length sc tc ((k + 1 : Nat) : Int) W (by omega) (by omega))
  have HPF := TW.hide (fun (k : Nat) (h : k ≤ 8) => pFits kd ((k + 1 : Nat) : Int) (p.xof != 0) hk (by omega) (by omega))
  have hs4 : 4 * (mo kd / 4).toNat = n := by rw [← hN]; rcases hk with rfl | rfl <;> rfl
  have hat : rAt kd 10 = ((2 * (mo kd / 4).toNat : Nat) : Int) ∧ rSz kd 10 = ((mo kd / 4).toNat : Int) ∧ rAt kd 11 = ((3 * (mo kd / 4).toNat : Nat) : Int) ∧ rSz kd 11 = ((mo kd / 4).toNat : Int) := by rcases hk with rfl | rfl <;> decide
  have H48 := TW.hide (fun W => whole 10 kd W (by omega) (by omega))
  have H48b := TW.hide (fun W => whole 11 kd W (by omega) (by omega))
  rw [hat.1, hat.2.1] at H48
  rw [hat.2.2.1, hat.2.2.2] at H48b
  have hsl : s.length ≤ (mo kd / 4).toNat ∧ t.length ≤ (mo kd / 4).toNat := ck_salts hck
  have hEN : enL kd p s t = splice (splice (enP kd p 9) (2 * (mo kd / 4).toNat) s) (3 * (mo kd / 4).toNat) t := rfl
  generalize (mo kd / 4).toNat = s4 at *
  have HEN := TW.hide hEN
  have HS4 := TW.hide hs4
  have HSL := TW.hide hsl
  have HR1 := TW.hide (fun W (hb : Below B w W) => h1.row.below (hB ▸ hb))
  have HR2 := TW.hide (fun W (hb : Below B w W) => h2.row.below (hB ▸ hb))
  have H49b : Hid (∀ W : World, Calls Try.prog 25 #[.agg #[.int .i64 ((2 * s4 : Nat) : Int), .int .i64 (s4 : Int)], .slice (some ⟨g, 0, none⟩) n n] W fun e w' => e = .returned (.slice (some ⟨g, 0 + 2 * s4, none⟩) s4 (n - 2 * s4)) ∧ Below W.heap.size W w') := fun W =>
    spanOf g 0 n n (2 * s4) s4 W (by omega) (Nat.le_refl _) (by omega) (by unfold maxLen; omega)
  have H49c : Hid (∀ W : World, Calls Try.prog 25 #[.agg #[.int .i64 ((3 * s4 : Nat) : Int), .int .i64 (s4 : Int)], .slice (some ⟨g, 0, none⟩) n n] W fun e w' => e = .returned (.slice (some ⟨g, 0 + 3 * s4, none⟩) s4 (n - 3 * s4)) ∧ Below W.heap.size W w') := fun W =>
    spanOf g 0 n n (3 * s4) s4 W (by omega) (Nat.le_refl _) (by omega) (by unfold maxLen; omega)
  have HMO := TW.hide hmo
  clear hat hs4 hsl hEN h1 h2 H9 H16 hmo
  go_wp2
  go_loopw [10] (fun i wr => ∃ k : Nat, k ≤ 9 ∧ i = .int .i64 ((k + 1 : Nat) : Int) ∧ wr.heap[B]? = some (.cells (pcP p (.slice sa s.length sc) (.slice ta t.length tc)) 26 (0, 0)) ∧ wr.heap[g]? = some (.cells (vs (enP kd p k)).toArray 5 (0, 0)) ∧ Below B w wr) (fun i _ => 10 - (intOf i).toNat)
  case atStart => exact ⟨0, Nat.zero_le _, rfl, M0.out, MG.out, MB.out⟩
  case round =>
    rename_i Q1 K1 a1
    obtain ⟨k, hk9, rfl, n0, ng, hb⟩ := hrel
    clear M0 MG MB X
    by_cases hlt : k < 9
    · have hst : enP kd p (k + 1) = ly (enP kd p k) (rAt kd ((k + 1 : Nat) : Int)).toNat (pSz kd ((k + 1 : Nat) : Int) (p.xof != 0)).toNat (p.nv ((k + 1 : Nat) : Int)) := rfl
      obtain ⟨e1, e2, l8, lf, _⟩ := HPF.out k (by omega)
      have c40 := TW.hide (fun W => H40.out k W (by omega))
      have c45 := TW.hide (fun W => H45.out k W (by omega))
      rw [e1, e2] at c40
      obtain ⟨v0, v1⟩ := HBD.out ((k + 1 : Nat) : Int)
      have hle := hlen.out k (by omega)
      have c47 : Hid (∀ W : World, W.heap[g]? = some (.cells (vs (enP kd p k)).toArray 5 (0, 0)) → Calls Try.prog 22 #[.agg #[.int .i64 ((rAt kd ((k + 1 : Nat) : Int)).toNat : Int), .int .i64 ((pSz kd ((k + 1 : Nat) : Int) (p.xof != 0)).toNat : Int)], .slice (some ⟨g, 0, none⟩) n n, .int .u64 (p.nv ((k + 1 : Nat) : Int))] W fun e w' => e = .returned (.tuple #[]) ∧ w'.heap[g]? = some (.cells (vs (enP kd p (k + 1))).toArray 5 (0, 0)) ∧ Below g W w') := fun W hW => by
        have := layB g (enP kd p k) (rAt kd ((k + 1 : Nat) : Int)).toNat (pSz kd ((k + 1 : Nat) : Int) (p.xof != 0)).toNat (p.nv ((k + 1 : Nat) : Int)) W hW (by omega) l8 (by have := HMO.out; omega) v0 v1
        rw [hle, ← hst] at this
        exact this
      clear hst e1 e2 l8 lf v0 v1 hle
      generalize (rAt kd ((k + 1 : Nat) : Int)).toNat = ra at *
      generalize (pSz kd ((k + 1 : Nat) : Int) (p.xof != 0)).toNat = pz at *
      generalize p.nv ((k + 1 : Nat) : Int) = vv at *
      generalize hk1 : k + 1 = k1 at *
      have HT0 : Hid (wr.drew.heap[B]? = some (.cells (pcP p (.slice sa s.length sc) (.slice ta t.length tc)) 26 (0, 0)) ∧ Below B w wr.drew) := ⟨n0, below_drewN hb 1⟩
      have NG0 : Hid (wr.drew.heap[g]? = some (.cells (vs (enP kd p k)).toArray 5 (0, 0))) := ng
      clear n0 ng hb
      have k9 : (k1 : Int) ≤ 9 := by omega
      go_wp2
      refine wp_region_noPanic ?_
      refine RG.wp_region_L (fun Z => True) (fun Z => Z.heap[B]? = some (.cells (pcP p (.slice sa s.length sc) (.slice ta t.length tc)) 26 (0, 0)) ∧ Below B w Z) [] (by kernel_rfl) ?_
      generalize wr.drew = Y0 at *
      refine RG.wpL_take (fuel := 3) (a' := ?A) [0, 1, 2, 3, 4, 6, 7, 8] (by kernel_rfl) (by kernel_rfl) (fun _ _ _ _ _ h => h) HT0.out (fun _ => trivial) ?r ?_
      case r =>
        refine RG.RunsIf.weak (v := ?_) (by rfl) (by rfl) (fun Z hT => ?_) ?_
        rotate_left
        · skip
          go_simp
          rfl
        simp only [Act.put, List.setIfInBounds_toArray, List.set_cons_zero, List.set_cons_succ, List.getElem_toArray, List.getElem_cons_zero, List.getElem_cons_succ]
        refine RG.RunsIf.weak (v := ?_) (by rfl) (by rfl) (fun Z hT => ?_) ?_
        rotate_left
        · skip
          go_simp
          rfl
        simp only [Act.put, List.setIfInBounds_toArray, List.set_cons_zero, List.set_cons_succ, List.getElem_toArray, List.getElem_cons_zero, List.getElem_cons_succ]
        refine RG.RunsIf.weak (v := ?_) (by rfl) (by rfl) (fun Z hT => ?_) ?_
        rotate_left
        · skip
          go_simp
          rfl
        simp only [Act.put, List.setIfInBounds_toArray, List.set_cons_zero, List.set_cons_succ, List.getElem_toArray, List.getElem_cons_zero, List.getElem_cons_succ]
        refine RG.RunsIf.weak (v := ?_) (by rfl) (by rfl) (fun Z hT => ?_) ?_
        rotate_left
        · have c : Z.cell? ⟨B, 6, none⟩ = some (.int .u32 p.xof) := blk_cell hT.1 rfl
          go_simp
          rfl
        simp only [Act.put, List.setIfInBounds_toArray, List.set_cons_zero, List.set_cons_succ, List.getElem_toArray, List.getElem_cons_zero, List.getElem_cons_succ]
        refine RG.RunsIf.weak (v := ?_) (by rfl) (by rfl) (fun Z hT => ?_) ?_
        rotate_left
        · skip
          go_simp
          rfl
        simp only [Act.put, List.setIfInBounds_toArray, List.set_cons_zero, List.set_cons_succ, List.getElem_toArray, List.getElem_cons_zero, List.getElem_cons_succ]
        refine RG.RunsIf.weak (v := ?_) (by rfl) (by rfl) (fun Z hT => ?_) ?_
        rotate_left
        · skip
          go_simp
          rfl
        simp only [Act.put, List.setIfInBounds_toArray, List.set_cons_zero, List.set_cons_succ, List.getElem_toArray, List.getElem_cons_zero, List.getElem_cons_succ]
        refine RG.RunsIf.weak (by rfl) (by rfl) (fun Z hT => exec_load_row 26 _ (by rfl) (B) (by rfl) 26 (pcP p (.slice sa s.length sc) (.slice ta t.length tc)) (0, 0) _ hT.1 Try.underlying26 rfl (info31 _ _ _)) ?_
        simp only [Act.put, List.setIfInBounds_toArray, List.set_cons_zero, List.set_cons_succ, List.getElem_toArray, List.getElem_cons_zero, List.getElem_cons_succ]
        refine RG.RunsIf.weak (v := ?_) (by rfl) (by rfl) (fun Z hT => ?_) ?_
        rotate_left
        · skip
          go_simp
          rfl
        simp only [Act.put, List.setIfInBounds_toArray, List.set_cons_zero, List.set_cons_succ, List.getElem_toArray, List.getElem_cons_zero, List.getElem_cons_succ]
        exact RG.RunsIf.nil
      refine RG.wpL_step (i := 5) (by kernel_rfl) (by rfl) (by rfl) (fun K hK => ?_)
      have HK := TW.hide hK
      clear hK
      go_simp
      refine (c40.out _).mono ?_
      rintro e w3 ⟨rfl, hbb⟩
      have HT1 : Hid (w3.heap[B]? = some (.cells (pcP p (.slice sa s.length sc) (.slice ta t.length tc)) 26 (0, 0)) ∧ Below B w w3) := ⟨blk_keep HT0.out.1 hbb, below_row HT0.out.2 hbb (by have := blk_lt HT0.out.1; omega)⟩
      have NG1 := TW.hide (blk_keep NG0.out hbb)
      refine HK.out _ _ HT1.out (fun _ => trivial) ?_
      clear HK K hbb HT0 NG0
      refine RG.wpL_step (i := 9) (by kernel_rfl) (by rfl) (by rfl) (fun K hK => ?_)
      have HK := TW.hide hK
      clear hK
      go_simp
      refine (c45.out _).mono ?_
      rintro e w4 ⟨rfl, hbb⟩
      have HT2 : Hid (w4.heap[B]? = some (.cells (pcP p (.slice sa s.length sc) (.slice ta t.length tc)) 26 (0, 0)) ∧ Below B w w4) := ⟨blk_keep HT1.out.1 hbb, below_row HT1.out.2 hbb (by have := blk_lt HT1.out.1; omega)⟩
      have NG2 := TW.hide (blk_keep NG1.out hbb)
      refine HK.out _ _ HT2.out (fun _ => trivial) ?_
      clear HK K hbb HT1 NG1
      refine RG.wpL_step (i := 10) (by kernel_rfl) (by rfl) (by rfl) (fun K hK => ?_)
      have HK := TW.hide hK
      clear hK
      go_simp
      refine (c47.out _ NG2.out).mono ?_
      rintro e w5 ⟨rfl, ng, hbb⟩
      have HT3 : Hid (w5.heap[B]? = some (.cells (pcP p (.slice sa s.length sc) (.slice ta t.length tc)) 26 (0, 0)) ∧ Below B w w5) := ⟨by rw [hbb.block B (by omega)]; exact HT2.out.1, HT2.out.2.trans (hbb.mono (by omega))⟩
      have NG3 := TW.hide ng
      refine HK.out _ _ HT3.out (fun _ => trivial) ?_
      clear HK K hbb ng HT2 NG2
      refine RG.wpL_done (by kernel_rfl) ?_ _
      refine NoPanic.normal ?_
      go_wp2
      (first | (go_roundw; case' rel => skip) | (refine ⟨?_, ?measure⟩; (repeat apply Exists.intro); refine ⟨?rel, rfl⟩))
      case rel => exact ⟨k + 1, by omega, by rw [hk1]; go_num, HT3.out.1, by rw [hk1]; exact NG3.out, HT3.out.2⟩
      case measure => simp [intOf]; omega
    · obtain rfl : k = 9 := by omega
      have HA := TW.hide a1
      clear a1 H40 H45 HPF HBD
      have HT0 : Hid (wr.heap[B]? = some (.cells (pcP p (.slice sa s.length sc) (.slice ta t.length tc)) 26 (0, 0)) ∧ Below B w wr) := ⟨n0, hb⟩
      have NG := TW.hide ng
      clear n0 ng hb
      go_wp2
      refine HA.out _ _ ?_
      clear HA
      refine wp_seq_k fun KK hKK => ?_
      have HKK := TW.hide hKK
      clear hKK
      refine wp_region_noPanic ?_
      refine RG.wp_region_L (fun Z => True) (fun Z => Z.heap[B]? = some (.cells (pcP p (.slice sa s.length sc) (.slice ta t.length tc)) 26 (0, 0)) ∧ Below B w Z) [] (by kernel_rfl) ?_
      have HT1 : Hid (wr.drew.heap[B]? = some (.cells (pcP p (.slice sa s.length sc) (.slice ta t.length tc)) 26 (0, 0)) ∧ Below B w wr.drew) := ⟨HT0.out.1, below_drewN HT0.out.2 1⟩
      have NG1 : Hid (wr.drew.heap[g]? = some (.cells (vs (enP kd p 9)).toArray 5 (0, 0))) := NG.out
      clear HT0 NG
      generalize wr.drew = Ya at *
      refine RG.wpL_take (fuel := 3) (a' := ?Aa) [0, 2, 4, 5] (by kernel_rfl) (by kernel_rfl) (fun _ _ _ _ _ h => h) HT1.out (fun _ => trivial) ?ra ?_
      case ra =>
        refine RG.RunsIf.weak (v := ?_) (by rfl) (by rfl) (fun Z hT => ?_) ?_
        rotate_left
        · skip
          go_simp
          rfl
        simp only [Act.put, List.setIfInBounds_toArray, List.set_cons_zero, List.set_cons_succ, List.getElem_toArray, List.getElem_cons_zero, List.getElem_cons_succ]
        refine RG.RunsIf.weak (v := ?_) (by rfl) (by rfl) (fun Z hT => ?_) ?_
        rotate_left
        · skip
          go_simp
          rfl
        simp only [Act.put, List.setIfInBounds_toArray, List.set_cons_zero, List.set_cons_succ, List.getElem_toArray, List.getElem_cons_zero, List.getElem_cons_succ]
        refine RG.RunsIf.weak (v := ?_) (by rfl) (by rfl) (fun Z hT => ?_) ?_
        rotate_left
        · skip
          go_simp
          rfl
        simp only [Act.put, List.setIfInBounds_toArray, List.set_cons_zero, List.set_cons_succ, List.getElem_toArray, List.getElem_cons_zero, List.getElem_cons_succ]
        refine RG.RunsIf.weak (v := ?_) (by rfl) (by rfl) (fun Z hT => ?_) ?_
        rotate_left
        · have c : Z.cell? ⟨B, 9, none⟩ = some (.slice sa s.length sc) := blk_cell hT.1 rfl
          go_simp
          rfl
        simp only [Act.put, List.setIfInBounds_toArray, List.set_cons_zero, List.set_cons_succ, List.getElem_toArray, List.getElem_cons_zero, List.getElem_cons_succ]
        exact RG.RunsIf.nil
      refine RG.wpL_step (i := 1) (by kernel_rfl) (by rfl) (by rfl) (fun K hK => ?_)
      have HK := TW.hide hK
      clear hK
      go_simp
      refine (H48.out _).mono ?_
      rintro e w6 ⟨rfl, hbb⟩
      have HT2 : Hid (w6.heap[B]? = some (.cells (pcP p (.slice sa s.length sc) (.slice ta t.length tc)) 26 (0, 0)) ∧ Below B w w6) := ⟨blk_keep HT1.out.1 hbb, below_row HT1.out.2 hbb (by have := blk_lt HT1.out.1; omega)⟩
      have NG2 := TW.hide (blk_keep NG1.out hbb)
      refine HK.out _ _ HT2.out (fun _ => trivial) ?_
      clear HK K hbb HT1 NG1
      refine RG.wpL_step (i := 3) (by kernel_rfl) (by rfl) (by rfl) (fun K hK => ?_)
      have HK := TW.hide hK
      clear hK
      go_simp
      refine (H49b.out _).mono ?_
      rintro e w7 ⟨rfl, hbb⟩
      have HT3 : Hid (w7.heap[B]? = some (.cells (pcP p (.slice sa s.length sc) (.slice ta t.length tc)) 26 (0, 0)) ∧ Below B w w7) := ⟨blk_keep HT2.out.1 hbb, below_row HT2.out.2 hbb (by have := blk_lt HT2.out.1; omega)⟩
      have NG3 := TW.hide (blk_keep NG2.out hbb)
      refine HK.out _ _ HT3.out (fun _ => trivial) ?_
      clear HK K hbb HT2 NG2
      refine RG.wpL_step (i := 6) (by kernel_rfl) (by rfl) (by rfl) (fun K hK => ?_)
      have HK := TW.hide hK
      clear hK
      have hrow := HR1.out w7 HT3.out.2
      have hsl := HSL.out
      have hs4 := HS4.out
      have hcl : (vs (enP kd p 9)).length = n := by rw [vs_length]; exact hlen.out 9 (by omega)
      refine wp_copy_splice (by rfl) _ _ 24 24 (by rfl) 5 Try.underlying24 (by kernel_rfl) _ _ _ _ _ _ (by rfl) (by rfl) g (2 * s4) (vs (enP kd p 9)) 5 NG3.out (vs s) (by rw [vs_length]; exact (Nat.min_eq_left (by omega)).symm) (fun hp0 => ⟨by rw [Nat.zero_add], row_addr hrow (by rw [vs_length] at hp0; omega)⟩) (by rw [hcl, vs_length]; omega) (oneCell_vs s) g w7 (Below.refl _ _) (Nat.le_refl _) ?_
      intro w8 hg8 hb8
      have HT0 : Hid (w8.heap[B]? = some (.cells (pcP p (.slice sa s.length sc) (.slice ta t.length tc)) 26 (0, 0)) ∧ Below B w w8) := ⟨by rw [hb8.block B (by omega)]; exact HT3.out.1, HT3.out.2.trans (hb8.mono (by omega))⟩
      have NG : Hid (w8.heap[g]? = some (.cells (vs (splice (enP kd p 9) (2 * s4) s)).toArray 5 (0, 0))) := by show _ = _; rw [vs_splice]; exact hg8.out
      refine HK.out _ _ HT0.out (fun _ => trivial) ?_
      clear HK K hb8 hg8 HT3 NG3 hrow hsl hs4 hcl
      refine RG.wpL_done (by kernel_rfl) ?_ _
      refine NoPanic.normal ?_
      refine HKK.out _ _ ?_
      clear HKK KK
      refine wp_seq_k fun KK hKK => ?_
      have HKK := TW.hide hKK
      clear hKK
      refine wp_region_noPanic ?_
      refine RG.wp_region_L (fun Z => True) (fun Z => Z.heap[B]? = some (.cells (pcP p (.slice sa s.length sc) (.slice ta t.length tc)) 26 (0, 0)) ∧ Below B w Z) [] (by kernel_rfl) ?_
      have HT1 : Hid (w8.drew.heap[B]? = some (.cells (pcP p (.slice sa s.length sc) (.slice ta t.length tc)) 26 (0, 0)) ∧ Below B w w8.drew) := ⟨HT0.out.1, below_drewN HT0.out.2 1⟩
      have NG1 : Hid (w8.drew.heap[g]? = some (.cells (vs (splice (enP kd p 9) (2 * s4) s)).toArray 5 (0, 0))) := NG.out
      clear HT0 NG
      generalize w8.drew = Yb at *
      refine RG.wpL_take (fuel := 3) (a' := ?Ab) [0, 2, 4, 5] (by kernel_rfl) (by kernel_rfl) (fun _ _ _ _ _ h => h) HT1.out (fun _ => trivial) ?rb ?_
      case rb =>
        refine RG.RunsIf.weak (v := ?_) (by rfl) (by rfl) (fun Z hT => ?_) ?_
        rotate_left
        · skip
          go_simp
          rfl
        simp only [Act.put, List.setIfInBounds_toArray, List.set_cons_zero, List.set_cons_succ, List.getElem_toArray, List.getElem_cons_zero, List.getElem_cons_succ]
        refine RG.RunsIf.weak (v := ?_) (by rfl) (by rfl) (fun Z hT => ?_) ?_
        rotate_left
        · skip
          go_simp
          rfl
        simp only [Act.put, List.setIfInBounds_toArray, List.set_cons_zero, List.set_cons_succ, List.getElem_toArray, List.getElem_cons_zero, List.getElem_cons_succ]
        refine RG.RunsIf.weak (v := ?_) (by rfl) (by rfl) (fun Z hT => ?_) ?_
        rotate_left
        · skip
          go_simp
          rfl
        simp only [Act.put, List.setIfInBounds_toArray, List.set_cons_zero, List.set_cons_succ, List.getElem_toArray, List.getElem_cons_zero, List.getElem_cons_succ]
        refine RG.RunsIf.weak (v := ?_) (by rfl) (by rfl) (fun Z hT => ?_) ?_
        rotate_left
        · have c : Z.cell? ⟨B, 10, none⟩ = some (.slice ta t.length tc) := blk_cell hT.1 rfl
          go_simp
          rfl
        simp only [Act.put, List.setIfInBounds_toArray, List.set_cons_zero, List.set_cons_succ, List.getElem_toArray, List.getElem_cons_zero, List.getElem_cons_succ]
        exact RG.RunsIf.nil
      refine RG.wpL_step (i := 1) (by kernel_rfl) (by rfl) (by rfl) (fun K hK => ?_)
      have HK := TW.hide hK
      clear hK
      go_simp
      refine (H48b.out _).mono ?_
      rintro e w6 ⟨rfl, hbb⟩
      have HT2 : Hid (w6.heap[B]? = some (.cells (pcP p (.slice sa s.length sc) (.slice ta t.length tc)) 26 (0, 0)) ∧ Below B w w6) := ⟨blk_keep HT1.out.1 hbb, below_row HT1.out.2 hbb (by have := blk_lt HT1.out.1; omega)⟩
      have NG2 := TW.hide (blk_keep NG1.out hbb)
      refine HK.out _ _ HT2.out (fun _ => trivial) ?_
      clear HK K hbb HT1 NG1
      refine RG.wpL_step (i := 3) (by kernel_rfl) (by rfl) (by rfl) (fun K hK => ?_)
      have HK := TW.hide hK
      clear hK
      go_simp
      refine (H49c.out _).mono ?_
      rintro e w7 ⟨rfl, hbb⟩
      have HT3 : Hid (w7.heap[B]? = some (.cells (pcP p (.slice sa s.length sc) (.slice ta t.length tc)) 26 (0, 0)) ∧ Below B w w7) := ⟨blk_keep HT2.out.1 hbb, below_row HT2.out.2 hbb (by have := blk_lt HT2.out.1; omega)⟩
      have NG3 := TW.hide (blk_keep NG2.out hbb)
      refine HK.out _ _ HT3.out (fun _ => trivial) ?_
      clear HK K hbb HT2 NG2
      refine RG.wpL_step (i := 6) (by kernel_rfl) (by rfl) (by rfl) (fun K hK => ?_)
      have HK := TW.hide hK
      clear hK
      have hrow := HR2.out w7 HT3.out.2
      have hsl := HSL.out
      have hs4 := HS4.out
      have hcl : (vs (splice (enP kd p 9) (2 * s4) s)).length = n := by rw [vs_length]; rw [length_splice _ _ _ (by have := hlen.out 9 (by omega); omega)]; exact hlen.out 9 (by omega)
      refine wp_copy_splice (by rfl) _ _ 24 24 (by rfl) 5 Try.underlying24 (by kernel_rfl) _ _ _ _ _ _ (by rfl) (by rfl) g (3 * s4) (vs (splice (enP kd p 9) (2 * s4) s)) 5 NG3.out (vs t) (by rw [vs_length]; exact (Nat.min_eq_left (by omega)).symm) (fun hp0 => ⟨by rw [Nat.zero_add], row_addr hrow (by rw [vs_length] at hp0; omega)⟩) (by rw [hcl, vs_length]; omega) (oneCell_vs t) g w7 (Below.refl _ _) (Nat.le_refl _) ?_
      intro w9 hg8 hb8
      have HT0 : Hid (w9.heap[B]? = some (.cells (pcP p (.slice sa s.length sc) (.slice ta t.length tc)) 26 (0, 0)) ∧ Below B w w9) := ⟨by rw [hb8.block B (by omega)]; exact HT3.out.1, HT3.out.2.trans (hb8.mono (by omega))⟩
      have NG : Hid (w9.heap[g]? = some (.cells (vs (splice (splice (enP kd p 9) (2 * s4) s) (3 * s4) t)).toArray 5 (0, 0))) := by show _ = _; rw [vs_splice]; exact hg8.out
      refine HK.out _ _ HT0.out (fun _ => trivial) ?_
      clear HK K hb8 hg8 HT3 NG3 hrow hsl hs4 hcl
      refine RG.wpL_done (by kernel_rfl) ?_ _
      refine NoPanic.normal ?_
      refine HKK.out _ _ ?_
      clear HKK KK
      have e := HEN.out
      rw [← e] at NG
      have hle2 : (enL kd p s t).length = n := by
        rw [e, length_splice _ _ _ (by rw [length_splice _ _ _ (by have := hlen.out 9 (by omega); have := HS4.out; have := HSL.out; omega)]; have := hlen.out 9 (by omega); have := HS4.out; have := HSL.out; omega), length_splice _ _ _ (by have := hlen.out 9 (by omega); have := HS4.out; have := HSL.out; omega)]
        exact hlen.out 9 (by omega)
      have HLE := TW.hide hle2
      clear hle2 e
      go_wp2
      go_ret2
      exact ⟨g, by rw [HLE.out]; rfl, by omega, NG.out, HT0.out.2⟩
end LW
end Go.Proofs.Ytomdplcmbcjkfaa
