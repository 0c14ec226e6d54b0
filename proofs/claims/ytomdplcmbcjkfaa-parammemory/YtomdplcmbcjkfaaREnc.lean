/-
  What the call Encode (the document) gives, for all parameters.
-/
import Derived.Test.YtomdplcmbcjkfaaEnc
namespace Go.Proofs.Ytomdplcmbcjkfaa
open Go.RowKit
set_option linter.unusedVariables false
set_option linter.unusedSimpArgs false
namespace LW
open Words
attribute [local go_sem ↓] Go.wp_at_zero Go.wp_at_succ
set_option maxHeartbeats 2000000 in
theorem rlayB (g : Nat) (zs : List Int) (j n : Nat) (v : Int) (w : World) (h : w.heap[g]? = some (.cells (vs zs).toArray 5 (0, 0))) (hm : zs.length ≤ 64) (hn8 : n ≤ 8) (hl : j + n ≤ zs.length) (v0 : 0 ≤ v) (v1 : v < 18446744073709551616) :
    Calls Try.prog 35 #[.slice (some ⟨g, 0, none⟩) zs.length zs.length, .int .i64 j, .int .i64 n, .int .u64 v] w fun e w' =>
      e = .returned (.tuple #[]) ∧ w'.heap[g]? = some (.cells (vs (ly zs j n v)).toArray 5 (0, 0)) ∧ Below g w w' ∧ ∀ b, b ≠ g → w'.heap[b]? = w.heap[b]? := by
  have hst := fun k (h : k < n) => ly_step zs j k v (by omega)
  have hlen := fun k (h : k ≤ n) => ly_length zs j k v (by omega)
  have h0 := ly_zero zs j v
  generalize zs.length = len at *
  have HS := TW.hide hst
  have HL := TW.hide hlen
  have H0 := TW.hide h0
  have HO := TW.hide h
  clear hst hlen h0 h
  go_enter Try.func35, Try.ntmps35
  go_wp2
  go_loopw [8] (fun i wr => ∃ k : Nat, k ≤ n ∧ i = .int .i64 k ∧ wr.heap[g]? = some (.cells (vs (ly zs j k v)).toArray 5 (0, 0)) ∧ Below g w wr ∧ ∀ b, b ≠ g → wr.heap[b]? = w.heap[b]?) (fun i _ => n - (intOf i).toNat)
  case atStart => exact ⟨0, Nat.zero_le _, rfl, by rw [H0.out]; exact HO.out, Below.refl _ _, fun _ _ => rfl⟩
  case round =>
    obtain ⟨k, hk, rfl, hown, hbel, hoth⟩ := hrel
    by_cases hlt : k < n
    · have hc : wr.cell? ⟨g, j + k, none⟩ = some (.int .u8 ((ly zs j k v).getD (j + k) 0)) := blk_cell hown (by rw [List.getElem?_toArray, vs_get _ _ (by rw [HL.out k (by omega)]; omega)])
      have hf := frozen_of_row wr g (j + k) _ 5 hown
      have hnew := blk_set (i := j + k) (u := .int .u8 (v / 256 ^ k % 256)) hown
      rw [List.setIfInBounds_toArray, HS.out k hlt] at hnew
      have hbn : Below g w (wr.setCell ⟨g, j + k, none⟩ (.int .u8 (v / 256 ^ k % 256))) := hbel.setCell (Nat.le_refl _) _
      have hon : ∀ b, b ≠ g → (wr.setCell ⟨g, j + k, none⟩ (.int .u8 (v / 256 ^ k % 256))).heap[b]? = w.heap[b]? := fun b hb => by rw [heap_setCell_other wr ⟨g, j + k, none⟩ b _ hb]; exact hoth b hb
      have hby := byteAt v k
      generalize (ly zs j k v).getD (j + k) 0 = z0 at *
      generalize v / 256 ^ k % 256 = bt at *
      have HNEW := TW.hide hnew
      have HBN := TW.hide hbn
      have HON := TW.hide hon
      clear hnew hbn hown hbel hoth hon
      go_wp2
      go_roundw
      case rel => exact ⟨k + 1, by omega, by go_num, HNEW.out, HBN.out, HON.out⟩
      case measure => simp [intOf]; omega
    · obtain rfl : k = n := by omega
      have HOW := TW.hide hown
      have HBE := TW.hide hbel
      have HOT := TW.hide hoth
      clear hown hbel hoth
      go_wp2
      go_end0
      exact ⟨rfl, HOW.out, HBE.out, HOT.out⟩
theorem enR_length (kd : Int) (p : Pm) (hk : kd = 1 ∨ kd = 2) : ∀ k, k ≤ 9 → (enR kd p k).length = (mo kd).toNat
  | 0, _ => by simp [enR]
  | k + 1, h => by
    obtain ⟨e1, e2, _, _, hl⟩ := fits kd ((k + 1 : Nat) : Int) hk (by omega) (by omega)
    rw [enR]
    split
    · exact enR_length kd p hk k (by omega)
    · rw [ly_length _ _ _ _ (by rw [enR_length kd p hk k (by omega)]; unfold fA fS at hl; omega), enR_length kd p hk k (by omega)]
theorem splice_nil (l : List Int) (j : Nat) : splice l j [] = l := by simp [splice]
theorem splice_step (l s : List Int) (j i : Nat) (hi : i < s.length) (hl : j + s.length ≤ l.length) : (splice l j (s.take i)).set (j + i) (s.getD i 0) = splice l j (s.take (i + 1)) := by
  unfold splice
  have h1 : (l.take j).length = j := by simp; omega
  have h2 : (s.take i).length = i := by simp; omega
  have h3 : (s.take (i + 1)).length = i + 1 := by simp; omega
  rw [h2, h3, List.set_append_right _ _ (by omega), h1, show j + i - j = i by omega, List.set_append_right _ _ (by omega), h2, Nat.sub_self, List.drop_eq_getElem_cons (by omega : j + i < l.length), List.set_cons_zero, take_snoc s i hi, List.append_assoc]
  rfl
set_option maxRecDepth 100000 in
set_option maxHeartbeats 4000000 in
theorem rencE (kd : Int) (p : Pm) (hp : p.Ok) (sa ta : Option Addr) (sc tc : Nat) (s t : List Int) (w : World) (hE : (p.ck kd s.length t.length != 0) = true) :
    Calls Try.prog 12 #[.int .i64 kd, .agg (pcP p (.slice sa s.length sc) (.slice ta t.length tc))] w fun e w' => e = .returned (.tuple #[(.slice none 0 0), .int .i64 (p.ck kd s.length t.length)]) ∧ Below w.heap.size w w' := by
  have H18 := TW.hide (fun W => rcheckP kd p hp sa ta s.length sc t.length tc W)
  generalize p.ck kd s.length t.length = E at *
  have hb := ((Below.refl w.heap.size w).alloc (Nat.le_refl _) (.cells (pcP p (.slice sa s.length sc) (.slice ta t.length tc)) 26))
  have n0 := (heap_new w (.cells (pcP p (.slice sa s.length sc) (.slice ta t.length tc)) 26))
  go_enter Try.func12, Try.ntmps12
  refine wp_seq_k fun K hK => ?_
  have HK := TW.hide hK
  clear hK
  go_wp2
  refine HK.out _ _ ?_
  clear HK K
  change Code.wp _ _ _ _ (w.alloc (.cells (pcP p (.slice sa s.length sc) (.slice ta t.length tc)) 26))
  generalize hWW : w.alloc (.cells (pcP p (.slice sa s.length sc) (.slice ta t.length tc)) 26) = W at hb n0 ⊢
  have hW : W.heap.size = w.heap.size + 1 := by rw [← hWW]; simp
  clear hWW
  generalize hB : w.heap.size = B at *
  have N0 := TW.hide n0
  have NB := TW.hide hb
  clear n0 hb
  clear hW
  go_wp2_with (refine wpList_load_row (by rfl) 26 _ (by rfl) (B) (by rfl) 26 (pcP p (.slice sa s.length sc) (.slice ta t.length tc)) (0, 0) _ N0.out Try.underlying26 rfl (info31 _ _ _) ?_)
  refine (H18.out _).mono ?_
  rintro e w1 ⟨rfl, hb1⟩
  have MB : Hid (Below B w w1) := below_row NB.out hb1 (by have := blk_lt N0.out; omega)
  clear hb1 N0 NB
  go_wp2
  go_ret2
  exact ⟨rfl, MB.out⟩
set_option maxRecDepth 100000 in
set_option maxHeartbeats 8000000 in
theorem rencOk (kd : Int) (p : Pm) (hp : p.Ok) (sa ta : Option Addr) (sc tc : Nat) (s t : List Int) (w : World) (hck : p.ck kd s.length t.length = 0) (h1 : Pb w sa sc s) (h2 : Pb w ta tc t) :
    Calls Try.prog 12 #[.int .i64 kd, .agg (pcP p (.slice sa s.length sc) (.slice ta t.length tc))] w fun e w' => ∃ g, e = .returned (.tuple #[.slice (some ⟨g, 0, none⟩) (enL kd p s t).length (enL kd p s t).length, .int .i64 0]) ∧ w.heap.size ≤ g ∧ w'.heap[g]? = some (.cells (vs (enL kd p s t)).toArray 5 (0, 0)) ∧ Below w.heap.size w w' := by
  have H18 : Hid (∀ W, Calls Try.prog 32 #[.int .i64 kd, .agg (pcP p (.slice sa s.length sc) (.slice ta t.length tc))] W fun e w' => e = .returned (.int .i64 0) ∧ Below W.heap.size W w') := fun W => by
    have := rcheckP kd p hp sa ta s.length sc t.length tc W
    rwa [hck] at this
  have hk := ck_kind hck
  have hmay := may_of_ck hck
  have hmo : mo kd = ((mo kd).toNat : Int) := by rcases hk with rfl | rfl <;> rfl
  have hmo2 : 32 ≤ (mo kd).toNat ∧ (mo kd).toNat ≤ 64 := by rcases hk with rfl | rfl <;> decide
  have H12 : Hid (∀ W, Calls Try.prog 33 #[.int .i64 kd] W fun e w' => e = .returned (.int .i64 ((mo kd).toNat : Int)) ∧ W = w') := fun W => by
    have := rsize kd W
    rwa [hmo] at this
  have H11 : Hid (∀ W, Calls Try.prog 36 #[.int .i64 kd] W fun e w' => e = .returned (.int .i64 ((mo kd).toNat : Int)) ∧ W = w') := fun W => by
    have := rmost kd W
    rwa [hmo] at this
  generalize hN : (mo kd).toNat = n at *
  have hb := ((Below.refl w.heap.size w).alloc (Nat.le_refl _) (.cells (pcP p (.slice sa s.length sc) (.slice ta t.length tc)) 26))
  have n0 := (heap_new w (.cells (pcP p (.slice sa s.length sc) (.slice ta t.length tc)) 26))
  go_enter Try.func12, Try.ntmps12
  refine wp_seq_k fun K hK => ?_
  have HK := TW.hide hK
  clear hK
  go_wp2
  refine HK.out _ _ ?_
  clear HK K
  change Code.wp _ _ _ _ (w.alloc (.cells (pcP p (.slice sa s.length sc) (.slice ta t.length tc)) 26))
  generalize hWW : w.alloc (.cells (pcP p (.slice sa s.length sc) (.slice ta t.length tc)) 26) = W at hb n0 ⊢
  have hW : W.heap.size = w.heap.size + 1 := by rw [← hWW]; simp
  clear hWW
  generalize hB : w.heap.size = B at *
  have N0 := TW.hide n0
  have NB := TW.hide hb
  clear n0 hb
  clear hW
  have h00 : ((0 : Int) != 0) = false := rfl
  refine wp_seq_k fun KK hK => ?_
  have HK := TW.hide hK
  clear hK
  go_wp2_with (refine wpList_load_row (by rfl) 26 _ (by rfl) (B) (by rfl) 26 (pcP p (.slice sa s.length sc) (.slice ta t.length tc)) (0, 0) _ N0.out Try.underlying26 rfl (info31 _ _ _) ?_)
  refine (H18.out _).mono ?_
  rintro e w1 ⟨rfl, hb1⟩
  have M0 := TW.hide (blk_keep N0.out hb1)
  have MB : Hid (Below B w w1) := below_row NB.out hb1 (by have := blk_lt N0.out; omega)
  clear hb1 N0 NB
  go_wp2
  refine HK.out _ _ ?_
  clear HK KK
  refine wp_seq_k fun KK hK => ?_
  have HK := TW.hide hK
  clear hK
  go_wp2
  refine HK.out _ _ ?_
  clear HK KK
  refine wp_seq_k fun KK hK => ?_
  have HK := TW.hide hK
  clear hK
  go_wp2_with fail
  refine (H12.out _).mono ?_
  rintro e w2 ⟨rfl, rfl⟩
  have hmk := mk29 n hmo2.2 w1
  go_wp2
  clear hmk
  have nx := heap_new w1 (.cells (vs (List.replicate n 0)).toArray 5)
  have bx := (Below.refl w1.heap.size w1).alloc (Nat.le_refl _) (.cells (vs (List.replicate n 0)).toArray 5)
  generalize w1.alloc (.cells (vs (List.replicate n 0)).toArray 5) = X at nx bx ⊢
  have hBg := blk_lt M0.out
  have n0 := blk_keep M0.out bx
  have NB : Hid (Below B w X) := below_row MB.out bx (by omega)
  have NG : Hid (X.heap[w1.heap.size]? = some (.cells (vs (enR kd p 0)).toArray 5 (0, 0))) := by show _ = _; rw [nx]; unfold enR; rw [hN]
  clear nx bx M0 MB
  generalize w1.heap.size = g at *
  refine HK.out _ _ ?_
  clear HK KK
  have x1 : IntKind.u64.wrap p.d = p.d := by
    have h := nv_bd p hp hmay 1
    rw [IntKind.wrap_u64]
    exact Int.emod_eq_of_lt h.1 h.2
  have x2 : IntKind.u64.wrap p.k = p.k := by
    have h := nv_bd p hp hmay 2
    rw [IntKind.wrap_u64]
    exact Int.emod_eq_of_lt h.1 h.2
  have x3 : IntKind.u64.wrap p.f = p.f := by
    have h := nv_bd p hp hmay 3
    rw [IntKind.wrap_u64]
    exact Int.emod_eq_of_lt h.1 h.2
  have x4 : IntKind.u64.wrap p.dp = p.dp := by
    have h := nv_bd p hp hmay 4
    rw [IntKind.wrap_u64]
    exact Int.emod_eq_of_lt h.1 h.2
  have x5 : IntKind.u64.wrap p.lf = p.lf := by
    have h := nv_bd p hp hmay 5
    rw [IntKind.wrap_u64]
    exact Int.emod_eq_of_lt h.1 h.2
  have x7 : IntKind.u64.wrap p.xof = p.xof := by
    have h := nv_bd p hp hmay 7
    rw [IntKind.wrap_u64]
    exact Int.emod_eq_of_lt h.1 h.2
  have x8 : IntKind.u64.wrap p.nd = p.nd := by
    have h := nv_bd p hp hmay 8
    rw [IntKind.wrap_u64]
    exact Int.emod_eq_of_lt h.1 h.2
  have x9 : IntKind.u64.wrap p.inn = p.inn := by
    have h := nv_bd p hp hmay 9
    rw [IntKind.wrap_u64]
    exact Int.emod_eq_of_lt h.1 h.2
  refine wp_seq_k fun KK hK => ?_
  have HK := TW.hide hK
  clear hK
  have c0 : X.cell? ⟨B, 0, none⟩ = some (.int .i64 p.d) := blk_cell n0 rfl
  have c1 : X.cell? ⟨B, 1, none⟩ = some (.int .i64 p.k) := blk_cell n0 rfl
  have c2 : X.cell? ⟨B, 2, none⟩ = some (.int .i64 p.f) := blk_cell n0 rfl
  have c3 : X.cell? ⟨B, 3, none⟩ = some (.int .i64 p.dp) := blk_cell n0 rfl
  have c4 : X.cell? ⟨B, 4, none⟩ = some (.int .u32 p.lf) := blk_cell n0 rfl
  have c5 : X.cell? ⟨B, 5, none⟩ = some (.int .u64 p.off) := blk_cell n0 rfl
  have c6 : X.cell? ⟨B, 6, none⟩ = some (.int .u32 p.xof) := blk_cell n0 rfl
  have c7 : X.cell? ⟨B, 7, none⟩ = some (.int .i64 p.nd) := blk_cell n0 rfl
  have c8 : X.cell? ⟨B, 8, none⟩ = some (.int .i64 p.inn) := blk_cell n0 rfl
  have N0 := TW.hide n0
  clear n0
  go_wp2
  clear c0 c1 c2 c3 c4 c5 c6 c7 c8 x1 x2 x3 x4 x5 x7 x8 x9
  have nx := heap_new X (.cells #[.int .u64 p.d, .int .u64 p.k, .int .u64 p.f, .int .u64 p.dp, .int .u64 p.lf, .int .u64 p.off, .int .u64 p.xof, .int .u64 p.nd, .int .u64 p.inn] 23)
  have bx := (Below.refl X.heap.size X).alloc (Nat.le_refl _) (.cells #[.int .u64 p.d, .int .u64 p.k, .int .u64 p.f, .int .u64 p.dp, .int .u64 p.lf, .int .u64 p.off, .int .u64 p.xof, .int .u64 p.nd, .int .u64 p.inn] 23)
  generalize X.alloc (.cells #[.int .u64 p.d, .int .u64 p.k, .int .u64 p.f, .int .u64 p.dp, .int .u64 p.lf, .int .u64 p.off, .int .u64 p.xof, .int .u64 p.nd, .int .u64 p.inn] 23) = X2 at nx bx ⊢
  have hgl := blk_lt NG.out
  have M0 := TW.hide (blk_keep N0.out bx)
  have MB : Hid (Below B w X2) := below_row NB.out bx (by omega)
  have MG := TW.hide (blk_keep NG.out bx)
  have MV := TW.hide nx
  clear nx bx N0 NB NG
  generalize X.heap.size = gv at *
  refine HK.out _ _ ?_
  clear HK KK
  have hlen := TW.hide (fun k (h : k ≤ 9) => (enR_length kd p hk k h).trans hN)
  have HBD := TW.hide (fun f => nv_bd p hp hmay f)
  have H50 : Hid (∀ (k : Nat) (Y : World), k ≤ 8 → Calls Try.prog 34 #[.int .i64 kd, .int .i64 ((k + 1 : Nat) : Int)] Y fun e w' => e = .returned (.tuple #[.int .i64 (rAt kd ((k + 1 : Nat) : Int)), .int .i64 (rSz kd ((k + 1 : Nat) : Int))]) ∧ Y = w') := fun k Y h => by
    have := place kd ((k + 1 : Nat) : Int) Y hk
    rw [if_neg (by omega), if_neg (by omega)] at this
    exact this
  have HPF := TW.hide (fun (k : Nat) (h : k ≤ 8) => fits kd ((k + 1 : Nat) : Int) hk (by omega) (by omega))
  have hs4 : 4 * (mo kd / 4).toNat = n := by rw [← hN]; rcases hk with rfl | rfl <;> rfl
  have hdiv : (n : Int).tdiv 4 = ((mo kd / 4).toNat : Int) := by rw [← hN]; rcases hk with rfl | rfl <;> rfl
  have hsl : s.length ≤ (mo kd / 4).toNat ∧ t.length ≤ (mo kd / 4).toNat := ck_salts hck
  have hEN : enL kd p s t = splice (splice (enR kd p 9) (2 * (mo kd / 4).toNat) s) (3 * (mo kd / 4).toNat) t := by rw [enR_enP kd p hk]; rfl
  generalize (mo kd / 4).toNat = s4 at *
  have HEN := TW.hide hEN
  have HS4 := TW.hide hs4
  have HSL := TW.hide hsl
  have HDV := TW.hide hdiv
  have HR1 := TW.hide (fun W (hb : Below B w W) => h1.row.below (hB ▸ hb))
  have HR2 := TW.hide (fun W (hb : Below B w W) => h2.row.below (hB ▸ hb))
  have HRW1 := TW.hide h1.row
  have HRW2 := TW.hide h2.row
  have HMO := TW.hide hmo
  clear hs4 hsl hEN h1 h2 H18 H12 hmo hdiv
  go_wp2
  go_loopw [9] (fun i wr => ∃ k : Nat, k ≤ 9 ∧ i = .int .i64 ((k + 1 : Nat) : Int) ∧ wr.heap[B]? = some (.cells (pcP p (.slice sa s.length sc) (.slice ta t.length tc)) 26 (0, 0)) ∧ wr.heap[g]? = some (.cells (vs (enR kd p k)).toArray 5 (0, 0)) ∧ wr.heap[gv]? = some (.cells #[.int .u64 p.d, .int .u64 p.k, .int .u64 p.f, .int .u64 p.dp, .int .u64 p.lf, .int .u64 p.off, .int .u64 p.xof, .int .u64 p.nd, .int .u64 p.inn] 23 (0, 0)) ∧ Below B w wr) (fun i _ => 10 - (intOf i).toNat)
  case atStart => exact ⟨0, Nat.zero_le _, rfl, M0.out, MG.out, MV.out, MB.out⟩
  case round =>
    rename_i Q1 K1 a1
    obtain ⟨k, hk9, rfl, n0, ng, nv, hb⟩ := hrel
    clear M0 MG MV MB X X2
    by_cases hlt : k < 9
    · have hst : enR kd p (k + 1) = if k + 1 = 7 ∧ (p.xof == 0) = true then enR kd p k else ly (enR kd p k) (rAt kd ((k + 1 : Nat) : Int)).toNat (rSz kd ((k + 1 : Nat) : Int)).toNat (p.nv ((k + 1 : Nat) : Int)) := rfl
      obtain ⟨e1, e2, l1, l8, lf⟩ := HPF.out k (by omega)
      have c50 := TW.hide (fun W => H50.out k W (by omega))
      rw [e1, e2] at c50
      obtain ⟨v0, v1⟩ := HBD.out ((k + 1 : Nat) : Int)
      have hle := hlen.out k (by omega)
      have c51 : Hid (∀ W : World, W.heap[g]? = some (.cells (vs (enR kd p k)).toArray 5 (0, 0)) → Calls Try.prog 35 #[.slice (some ⟨g, 0, none⟩) n n, .int .i64 (fA kd ((k + 1 : Nat) : Int) : Int), .int .i64 (fS kd ((k + 1 : Nat) : Int) : Int), .int .u64 (p.nv ((k + 1 : Nat) : Int))] W fun e w' => e = .returned (.tuple #[]) ∧ w'.heap[g]? = some (.cells (vs (ly (enR kd p k) (rAt kd ((k + 1 : Nat) : Int)).toNat (rSz kd ((k + 1 : Nat) : Int)).toNat (p.nv ((k + 1 : Nat) : Int)))).toArray 5 (0, 0)) ∧ Below g W w' ∧ ∀ b, b ≠ g → w'.heap[b]? = W.heap[b]?) := fun W hW => by
        have := rlayB g (enR kd p k) (fA kd ((k + 1 : Nat) : Int)) (fS kd ((k + 1 : Nat) : Int)) (p.nv ((k + 1 : Nat) : Int)) W hW (by omega) l8 (by have := HMO.out; omega) v0 v1
        rw [hle] at this
        exact this
      have cv : wr.cell? ⟨gv, k, none⟩ = some (.int .u64 (p.nv ((k + 1 : Nat) : Int))) := by
        have hkk : k = 0 ∨ k = 1 ∨ k = 2 ∨ k = 3 ∨ k = 4 ∨ k = 5 ∨ k = 6 ∨ k = 7 ∨ k = 8 := by omega
        rcases hkk with rfl | rfl | rfl | rfl | rfl | rfl | rfl | rfl | rfl <;> exact blk_cell nv rfl
      have cx : wr.cell? ⟨B, 6, none⟩ = some (.int .u32 p.xof) := blk_cell n0 rfl
      generalize hL1 : ly (enR kd p k) (rAt kd ((k + 1 : Nat) : Int)).toNat (rSz kd ((k + 1 : Nat) : Int)).toNat (p.nv ((k + 1 : Nat) : Int)) = L1 at *
      clear e1 e2 l1 l8 lf v0 v1 hle hL1
      have N0 := TW.hide n0
      have NG := TW.hide ng
      have NV := TW.hide nv
      have NB := TW.hide hb
      clear n0 ng nv hb
      generalize fA kd ((k + 1 : Nat) : Int) = ra at *
      generalize fS kd ((k + 1 : Nat) : Int) = pz at *
      generalize p.nv ((k + 1 : Nat) : Int) = vv at *
      have hsub : (((k + 1 : Nat) : Int) - 1) = (k : Int) := by omega
      have hwr : IntKind.i64.wrap (k : Int) = (k : Int) := by rw [IntKind.wrap_i64]; omega
      have k9 : ((k + 1 : Nat) : Int) ≤ 9 := by omega
      have kk9 : (k : Int) < 9 := by omega
      have kk0 : (0 : Int) ≤ (k : Int) := by omega
      by_cases h7 : k + 1 = 7
      · obtain rfl : k = 6 := by omega
        cases hx : p.xof == 0 with
        | true =>
          rw [if_pos ⟨rfl, hx⟩] at hst
          have HST := TW.hide hst
          clear hst
          have h77 : (((6 + 1 : Nat) : Int) == 7) = true := rfl
          go_wp2
          (first | (go_roundw; case' rel => skip) | (refine ⟨?_, ?measure⟩; (repeat apply Exists.intro); refine ⟨?rel, rfl⟩))
          case rel => exact ⟨7, by omega, by go_num, N0.out, by rw [HST.out]; exact NG.out, NV.out, NB.out⟩
          case measure => simp [intOf]; try omega
        | false =>
          rw [if_neg (by simp [hx])] at hst
          have HST := TW.hide hst
          clear hst
          have h77 : (((6 + 1 : Nat) : Int) == 7) = true := rfl
          go_wp2_with fail
          refine (c50.out _).mono ?_
          rintro e w3 ⟨rfl, rfl⟩
          go_wp2_with fail
          refine (c51.out _ NG.out).mono ?_
          rintro e w3 ⟨rfl, ng3, hb3, ho3⟩
          have M0 : Hid (w3.heap[B]? = some (.cells (pcP p (.slice sa s.length sc) (.slice ta t.length tc)) 26 (0, 0))) := by show _ = _; rw [ho3 B (by omega)]; exact N0.out
          have MV : Hid (w3.heap[gv]? = some (.cells #[.int .u64 p.d, .int .u64 p.k, .int .u64 p.f, .int .u64 p.dp, .int .u64 p.lf, .int .u64 p.off, .int .u64 p.xof, .int .u64 p.nd, .int .u64 p.inn] 23 (0, 0))) := by show _ = _; rw [ho3 gv (by omega)]; exact NV.out
          have MG := TW.hide ng3
          have MB : Hid (Below B w w3) := NB.out.trans (hb3.mono (by omega))
          clear ng3 hb3 ho3 N0 NG NV NB
          go_wp2
          (first | (go_roundw; case' rel => skip) | (refine ⟨?_, ?measure⟩; (repeat apply Exists.intro); refine ⟨?rel, rfl⟩))
          case rel => exact ⟨6 + 1, by omega, by go_num, M0.out, by rw [HST.out]; exact MG.out, MV.out, MB.out⟩
          case measure => simp [intOf]; try omega
      · rw [if_neg (fun h => h7 h.1)] at hst
        have HST := TW.hide hst
        clear hst
        have h77 : (((k + 1 : Nat) : Int) == 7) = false := by simp; omega
        go_wp2_with fail
        refine (c50.out _).mono ?_
        rintro e w3 ⟨rfl, rfl⟩
        go_wp2_with fail
        refine (c51.out _ NG.out).mono ?_
        rintro e w3 ⟨rfl, ng3, hb3, ho3⟩
        have M0 : Hid (w3.heap[B]? = some (.cells (pcP p (.slice sa s.length sc) (.slice ta t.length tc)) 26 (0, 0))) := by show _ = _; rw [ho3 B (by omega)]; exact N0.out
        have MV : Hid (w3.heap[gv]? = some (.cells #[.int .u64 p.d, .int .u64 p.k, .int .u64 p.f, .int .u64 p.dp, .int .u64 p.lf, .int .u64 p.off, .int .u64 p.xof, .int .u64 p.nd, .int .u64 p.inn] 23 (0, 0))) := by show _ = _; rw [ho3 gv (by omega)]; exact NV.out
        have MG := TW.hide ng3
        have MB : Hid (Below B w w3) := NB.out.trans (hb3.mono (by omega))
        clear ng3 hb3 ho3 N0 NG NV NB
        go_wp2
        (first | (go_roundw; case' rel => skip) | (refine ⟨?_, ?measure⟩; (repeat apply Exists.intro); refine ⟨?rel, rfl⟩))
        case rel => exact ⟨k + 1, by omega, by go_num, M0.out, by rw [HST.out]; exact MG.out, MV.out, MB.out⟩
        case measure => simp [intOf]; try omega
    · obtain rfl : k = 9 := by omega
      have HA := TW.hide a1
      clear a1 H50 HPF HBD
      have N0 := TW.hide n0
      have NG := TW.hide ng
      have NB := TW.hide hb
      clear n0 ng nv hb
      go_wp2
      refine HA.out _ _ ?_
      clear HA
      refine wp_seq_k fun KK hK => ?_
      have HK := TW.hide hK
      clear hK
      go_wp2_with fail
      refine (H11.out _).mono ?_
      rintro e w2 ⟨rfl, rfl⟩
      have hdv := HDV.out
      have hwd : IntKind.i64.wrap (s4 : Int) = (s4 : Int) := by rw [IntKind.wrap_i64]; have := HS4.out; omega
      go_wp2
      clear hdv hwd
      refine HK.out _ _ ?_
      clear HK KK H11
      have hcl13 : (enR kd p 9).length = n := hlen.out 9 (by omega)
      have HCL13 := TW.hide hcl13
      clear hcl13
      go_wp2
      go_loopw [13] (fun i wr => ∃ k : Nat, k ≤ s.length ∧ i = .int .i64 k ∧ wr.heap[B]? = some (.cells (pcP p (.slice sa s.length sc) (.slice ta t.length tc)) 26 (0, 0)) ∧ wr.heap[g]? = some (.cells (vs (splice (enR kd p 9) (2 * s4) (s.take k))).toArray 5 (0, 0)) ∧ Below B w wr) (fun i _ => s.length - (intOf i).toNat)
      case atStart => exact ⟨0, Nat.zero_le _, rfl, N0.out, by rw [List.take_zero, splice_nil]; exact NG.out, NB.out⟩
      case round =>
        rename_i Q13 K13 a13
        obtain ⟨k, hkl, rfl, n0, ng, hb⟩ := hrel
        clear N0 NG NB
        have cs9 : wr.cell? ⟨B, 9, none⟩ = some (.slice sa s.length sc) := blk_cell n0 rfl
        by_cases hlt : k < s.length
        · have hsl := HSL.out
          have hs4 := HS4.out
          obtain ⟨sb, so, hsa⟩ := (HRW1.out).some_of (by omega)
          have hrow : Row wr sa s := HRW1.out.below (hB ▸ hb)
          rw [hsa] at cs9 hrow
          have hcell : wr.cell? ⟨sb, so + k, none⟩ = some (.int .u8 (s.getD k 0)) := by
            rcases hrow with h | ⟨b', o', e, h⟩
            · rw [h] at hlt; simp at hlt
            · cases e; exact h k hlt
          have hsp := splice_step (enR kd p 9) s (2 * s4) k hlt (by have := HCL13.out; omega)
          have hln : (splice (enR kd p 9) (2 * s4) (s.take k)).length = n := by rw [length_splice _ _ _ (by have := HCL13.out; simp; omega)]; exact HCL13.out
          have hc : wr.cell? ⟨g, 2 * s4 + k, none⟩ = some (.int .u8 ((splice (enR kd p 9) (2 * s4) (s.take k)).getD (2 * s4 + k) 0)) := blk_cell ng (by rw [List.getElem?_toArray, vs_get _ _ (by omega)])
          have hf := frozen_of_row wr g (2 * s4 + k) _ 5 ng
          have ng2 := blk_set (i := 2 * s4 + k) (u := .int .u8 (s.getD k 0)) ng
          rw [List.setIfInBounds_toArray, show (vs (splice (enR kd p 9) (2 * s4) (s.take k))).set (2 * s4 + k) (.int .u8 (s.getD k 0)) = vs ((splice (enR kd p 9) (2 * s4) (s.take k)).set (2 * s4 + k) (s.getD k 0)) by simp [vs], hsp] at ng2
          have n02 := blk_other (p := g) (o := 2 * s4 + k) (u := .int .u8 (s.getD k 0)) n0 (by omega)
          have hb2 := hb.setCell (p := ⟨g, 2 * s4 + k, none⟩) (by simp; omega) (.int .u8 (s.getD k 0))
          have NG2 := TW.hide ng2
          have N02 := TW.hide n02
          have NB2 := TW.hide hb2
          generalize s.getD k 0 = z at *
          generalize (splice (enR kd p 9) (2 * s4) (s.take k)).getD (2 * s4 + k) 0 = z0 at *
          have hmul : IntKind.i64.wrap (2 * (s4 : Int)) = 2 * (s4 : Int) := by rw [IntKind.wrap_i64]; omega
          have hadd : IntKind.i64.wrap (2 * (s4 : Int) + (k : Int)) = ((2 * s4 + k : Nat) : Int) := by rw [IntKind.wrap_i64]; omega
          have q0 : (0 : Int) ≤ (k : Int) := by omega
          have q1 : (k : Int) < (s.length : Int) := by omega
          have q2 : (0 : Int) ≤ ((2 * s4 + k : Nat) : Int) := by omega
          have q3 : ((2 * s4 + k : Nat) : Int) < (n : Int) := by omega
          clear n0 ng hb hrow hsp hln ng2 n02 hb2 hsa
          generalize 2 * s4 + k = jj at *
          go_wp2
          (first | (go_roundw; case' rel => skip) | (refine ⟨?_, ?measure⟩; (repeat apply Exists.intro); refine ⟨?rel, rfl⟩))
          case rel => exact ⟨k + 1, by omega, by go_num, N02.out, NG2.out, NB2.out⟩
          case measure => simp [intOf]; omega
        · obtain rfl : k = s.length := by omega
          have HA := TW.hide a13
          clear a13
          rw [List.take_length] at ng
          have N0 := TW.hide n0
          have NG := TW.hide ng
          have NB := TW.hide hb
          clear n0 ng hb
          go_wp2
          refine HA.out _ _ ?_
          clear HA cs9
          have hcl14 : (splice (enR kd p 9) (2 * s4) s).length = n := by have hsl := HSL.out; have hs4 := HS4.out; have h9 := hlen.out 9 (by omega); rw [length_splice _ _ _ (by omega)]; exact h9
          have HCL14 := TW.hide hcl14
          clear hcl14
          go_wp2
          go_loopw [14] (fun i wr => ∃ k : Nat, k ≤ t.length ∧ i = .int .i64 k ∧ wr.heap[B]? = some (.cells (pcP p (.slice sa s.length sc) (.slice ta t.length tc)) 26 (0, 0)) ∧ wr.heap[g]? = some (.cells (vs (splice (splice (enR kd p 9) (2 * s4) s) (3 * s4) (t.take k))).toArray 5 (0, 0)) ∧ Below B w wr) (fun i _ => t.length - (intOf i).toNat)
          case atStart => exact ⟨0, Nat.zero_le _, rfl, N0.out, by rw [List.take_zero, splice_nil]; exact NG.out, NB.out⟩
          case round =>
            rename_i Q14 K14 a14
            obtain ⟨k, hkl, rfl, n0, ng, hb⟩ := hrel
            clear N0 NG NB
            have cs9 : wr.cell? ⟨B, 10, none⟩ = some (.slice ta t.length tc) := blk_cell n0 rfl
            by_cases hlt : k < t.length
            · have hsl := HSL.out
              have hs4 := HS4.out
              obtain ⟨sb, so, hsa⟩ := (HRW2.out).some_of (by omega)
              have hrow : Row wr ta t := HRW2.out.below (hB ▸ hb)
              rw [hsa] at cs9 hrow
              have hcell : wr.cell? ⟨sb, so + k, none⟩ = some (.int .u8 (t.getD k 0)) := by
                rcases hrow with h | ⟨b', o', e, h⟩
                · rw [h] at hlt; simp at hlt
                · cases e; exact h k hlt
              have hsp := splice_step (splice (enR kd p 9) (2 * s4) s) t (3 * s4) k hlt (by have := HCL14.out; omega)
              have hln : (splice (splice (enR kd p 9) (2 * s4) s) (3 * s4) (t.take k)).length = n := by rw [length_splice _ _ _ (by have := HCL14.out; simp; omega)]; exact HCL14.out
              have hc : wr.cell? ⟨g, 3 * s4 + k, none⟩ = some (.int .u8 ((splice (splice (enR kd p 9) (2 * s4) s) (3 * s4) (t.take k)).getD (3 * s4 + k) 0)) := blk_cell ng (by rw [List.getElem?_toArray, vs_get _ _ (by omega)])
              have hf := frozen_of_row wr g (3 * s4 + k) _ 5 ng
              have ng2 := blk_set (i := 3 * s4 + k) (u := .int .u8 (t.getD k 0)) ng
              rw [List.setIfInBounds_toArray, show (vs (splice (splice (enR kd p 9) (2 * s4) s) (3 * s4) (t.take k))).set (3 * s4 + k) (.int .u8 (t.getD k 0)) = vs ((splice (splice (enR kd p 9) (2 * s4) s) (3 * s4) (t.take k)).set (3 * s4 + k) (t.getD k 0)) by simp [vs], hsp] at ng2
              have n02 := blk_other (p := g) (o := 3 * s4 + k) (u := .int .u8 (t.getD k 0)) n0 (by omega)
              have hb2 := hb.setCell (p := ⟨g, 3 * s4 + k, none⟩) (by simp; omega) (.int .u8 (t.getD k 0))
              have NG2 := TW.hide ng2
              have N02 := TW.hide n02
              have NB2 := TW.hide hb2
              generalize t.getD k 0 = z at *
              generalize (splice (splice (enR kd p 9) (2 * s4) s) (3 * s4) (t.take k)).getD (3 * s4 + k) 0 = z0 at *
              have hmul : IntKind.i64.wrap (3 * (s4 : Int)) = 3 * (s4 : Int) := by rw [IntKind.wrap_i64]; omega
              have hadd : IntKind.i64.wrap (3 * (s4 : Int) + (k : Int)) = ((3 * s4 + k : Nat) : Int) := by rw [IntKind.wrap_i64]; omega
              have q0 : (0 : Int) ≤ (k : Int) := by omega
              have q1 : (k : Int) < (t.length : Int) := by omega
              have q2 : (0 : Int) ≤ ((3 * s4 + k : Nat) : Int) := by omega
              have q3 : ((3 * s4 + k : Nat) : Int) < (n : Int) := by omega
              clear n0 ng hb hrow hsp hln ng2 n02 hb2 hsa
              generalize 3 * s4 + k = jj at *
              go_wp2
              (first | (go_roundw; case' rel => skip) | (refine ⟨?_, ?measure⟩; (repeat apply Exists.intro); refine ⟨?rel, rfl⟩))
              case rel => exact ⟨k + 1, by omega, by go_num, N02.out, NG2.out, NB2.out⟩
              case measure => simp [intOf]; omega
            · obtain rfl : k = t.length := by omega
              have HA := TW.hide a14
              clear a14
              rw [List.take_length] at ng
              have N0 := TW.hide n0
              have NG := TW.hide ng
              have NB := TW.hide hb
              clear n0 ng hb
              go_wp2
              refine HA.out _ _ ?_
              clear HA cs9
              have hle2 : (enL kd p s t).length = n := by
                have hsl := HSL.out
                have hs4 := HS4.out
                have h9 := hlen.out 9 (by omega)
                rw [HEN.out, length_splice _ _ _ (by rw [length_splice _ _ _ (by omega)]; omega), length_splice _ _ _ (by omega)]
                exact h9
              have HLE := TW.hide hle2
              rw [← HEN.out] at NG
              clear hle2
              go_wp2
              go_ret2
              exact ⟨g, by rw [HLE.out]; rfl, by omega, NG.out, NB.out⟩
end LW
end Go.Proofs.Ytomdplcmbcjkfaa
