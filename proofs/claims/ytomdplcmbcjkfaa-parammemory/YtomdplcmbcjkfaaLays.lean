/-
  What the calls lay (the program's and the document's) give: a number laid down in a span of bytes that are owned.
-/
import Derived.Test.YtomdplcmbcjkfaaCheck
import Derived.Laws.OwnMore
namespace Go.Proofs.Ytomdplcmbcjkfaa
open Go.RowKit
set_option linter.unusedVariables false
namespace LW
open Words
/-- Bytes with a number in a span. -/
def ly (zs : List Int) (j n : Nat) (v : Int) : List Int := zs.take j ++ (un v n ++ zs.drop (j + n))
theorem ly_length (zs : List Int) (j n : Nat) (v : Int) (h : j + n ≤ zs.length) : (ly zs j n v).length = zs.length := by
  simp [ly, un_length]; omega
theorem ly_zero (zs : List Int) (j : Nat) (v : Int) : ly zs j 0 v = zs := by simp [ly, un]
theorem Byt.ly {zs : List Int} (h : Byt zs) (j n : Nat) (v : Int) : Byt (ly zs j n v) := (h.take j).append ((Byt.un v n).append (h.drop _))
theorem ly_step (zs : List Int) (j k : Nat) (v : Int) (h : j + k < zs.length) : (vs (ly zs j k v)).set (j + k) (.int .u8 (v / 256 ^ k % 256)) = vs (ly zs j (k + 1) v) := by
  unfold vs ly
  rw [← List.map_set]
  congr 1
  have h1 : (zs.take j).length = j := by simp; omega
  have h2 : (un v k).length = k := un_length v k
  rw [List.set_append_right _ _ (by rw [h1]; omega), h1, show j + k - j = k by omega]
  rw [List.set_append_right _ _ (by rw [h2]; omega), h2, Nat.sub_self, un_snoc]
  rw [List.drop_eq_getElem_cons h]
  simp [Nat.add_assoc]
theorem ly_step' (zs : List Int) (j k : Nat) (v : Int) (h : j + k < zs.length) : (vs (ly zs j k v)).set (j + k) (.int .u8 (v / 2 ^ (8 * k) % 256)) = vs (ly zs j (k + 1) v) := by
  rw [show (2 : Int) ^ (8 * k) = 256 ^ k by rw [Int.pow_mul]; rfl]; exact ly_step zs j k v h
theorem byteAt (v : Int) (k : Nat) : IntKind.u8.wrap (v / 2 ^ (8 * k)) = v / 256 ^ k % 256 := by
  rw [IntKind.wrap_u8', show (2 : Int) ^ (8 * k) = 256 ^ k by rw [Int.pow_mul]; rfl]
set_option maxHeartbeats 2000000 in
theorem rlay (g cap : Nat) (zs : List Int) (j n : Nat) (v : Int) (B : Nat) (w : World) (h : w.ownsRow B 5 1 (.slice (some ⟨g, 0, none⟩) zs.length cap) zs.length (vs zs)) (hg : B ≤ g) (hm : zs.length ≤ 1048576) (hn8 : n ≤ 8) (hl : j + n ≤ zs.length) (v0 : 0 ≤ v) (v1 : v < 18446744073709551616) :
    Calls Try.prog 35 #[.slice (some ⟨g, 0, none⟩) zs.length cap, .int .i64 j, .int .i64 n, .int .u64 v] w fun e w' =>
      e = .returned (.tuple #[]) ∧ w'.ownsRow B 5 1 (.slice (some ⟨g, 0, none⟩) zs.length cap) zs.length (vs (ly zs j n v)) ∧ Below B w w' := by
  have hst := fun k (h : k < n) => ly_step zs j k v (by omega)
  have hlen := fun k (h : k ≤ n) => ly_length zs j k v (by omega)
  have h0 := ly_zero zs j v
  generalize zs.length = len at *
  have HS := TW.hide hst
  have HL := TW.hide hlen
  have H0 := TW.hide h0
  have HO := TW.hide h
  clear hst hlen h0 h
  go_enter Try.func35, Try.ntmps35
  go_wp2
  go_loopw [8] (fun i wr => ∃ k : Nat, k ≤ n ∧ i = .int .i64 k ∧ wr.ownsRow B 5 1 (.slice (some ⟨g, 0, none⟩) len cap) len (vs (ly zs j k v)) ∧ Below B w wr) (fun i _ => n - (intOf i).toNat)
  case atStart => exact ⟨0, Nat.zero_le _, rfl, by rw [H0.out]; exact HO.out, Below.refl _ _⟩
  case round =>
    obtain ⟨k, hk, rfl, hown, hbel⟩ := hrel
    by_cases hlt : k < n
    · have hc : wr.cell? ⟨g, j + k, none⟩ = some (.int .u8 ((ly zs j k v).getD (j + k) 0)) := by
        rw [hown.cellAt (j + k) (by omega), vs_get _ _ (by rw [HL.out k (by omega)]; omega)]
      have hf := hown.frozenAt (j + k)
      have hnew := (hown.stored (j + k) (.int .u8 (v / 256 ^ k % 256))).1
      rw [HS.out k hlt] at hnew
      have hbn : Below B w (wr.setCell ⟨g, j + k, none⟩ (.int .u8 (v / 256 ^ k % 256))) := hbel.setCell hg _
      have hby := byteAt v k
      generalize (ly zs j k v).getD (j + k) 0 = z0 at *
      generalize v / 256 ^ k % 256 = bt at *
      have HNEW := TW.hide hnew
      have HBN := TW.hide hbn
      clear hnew hbn hown hbel
      go_wp2
      go_roundw
      case rel => exact ⟨k + 1, by omega, by go_num, HNEW.out, HBN.out⟩
      case measure => simp [intOf]; omega
    · obtain rfl : k = n := by omega
      have HOW := TW.hide hown
      have HBE := TW.hide hbel
      clear hown hbel
      go_wp2
      go_end0
      exact ⟨rfl, HOW.out, HBE.out⟩
set_option maxHeartbeats 2000000 in
theorem lay (g cap : Nat) (zs : List Int) (j n : Nat) (v : Int) (B : Nat) (w : World) (h : w.ownsRow B 5 1 (.slice (some ⟨g, 0, none⟩) zs.length cap) zs.length (vs zs)) (hg : B ≤ g) (hB : B ≤ w.heap.size) (hgl : g < w.heap.size) (hm : zs.length ≤ 1048576) (hn8 : n ≤ 8) (hl : j + n ≤ zs.length) (v0 : 0 ≤ v) (v1 : v < 18446744073709551616) :
    Calls Try.prog 22 #[.agg #[.int .i64 j, .int .i64 n], .slice (some ⟨g, 0, none⟩) zs.length cap, .int .u64 v] w fun e w' =>
      e = .returned (.tuple #[]) ∧ w'.ownsRow B 5 1 (.slice (some ⟨g, 0, none⟩) zs.length cap) zs.length (vs (ly zs j n v)) ∧ Below B w w' := by
  have hst := fun k (h : k < n) => ly_step' zs j k v (by omega)
  have hlen := fun k (h : k ≤ n) => ly_length zs j k v (by omega)
  have h0 := ly_zero zs j v
  have hown0 := h.alloc (.cells #[.int .i64 j, .int .i64 n] 52)
  have hbel0 := (Below.refl B w).alloc hB (.cells #[.int .i64 j, .int .i64 n] 52)
  have n0 := heap_alloc_new w (.cells #[.int .i64 j, .int .i64 n] 52)
  generalize zs.length = len at *
  have HS := TW.hide hst
  have HL := TW.hide hlen
  have H0 := TW.hide h0
  clear hst hlen h0 h
  have hne : g ≠ w.heap.size := by omega
  have hne' : w.heap.size ≠ g := by omega
  go_enter Try.func22, Try.ntmps22
  go_wp2
  generalize w.alloc (.cells #[.int .i64 j, .int .i64 n] 52) = W at hown0 hbel0 n0 ⊢
  have c0 := blk_cell n0 (i := 0) (v := .int .i64 j) rfl
  have HO := TW.hide hown0
  have HB := TW.hide hbel0
  have C0 := TW.hide c0
  clear hown0 hbel0 n0 c0
  go_loopw [9] (fun i wr => ∃ k : Nat, k ≤ n ∧ i = .int .i64 k ∧ wr.ownsRow B 5 1 (.slice (some ⟨g, 0, none⟩) len cap) len (vs (ly zs j k v)) ∧ Below B w wr ∧ wr.cell? ⟨w.heap.size, 0, none⟩ = some (.int .i64 j)) (fun i _ => n - (intOf i).toNat)
  case atStart => exact ⟨0, Nat.zero_le _, rfl, by rw [H0.out]; exact HO.out, HB.out, C0.out⟩
  case round =>
    obtain ⟨k, hk, rfl, hown, hbel, hcj⟩ := hrel
    by_cases hlt : k < n
    · have hc : wr.cell? ⟨g, j + k, none⟩ = some (.int .u8 ((ly zs j k v).getD (j + k) 0)) := by
        rw [hown.cellAt (j + k) (by omega), vs_get _ _ (by rw [HL.out k (by omega)]; omega)]
      have hf := hown.frozenAt (j + k)
      have hnew := (hown.stored (j + k) (.int .u8 (v / 2 ^ (8 * k) % 256))).1
      rw [HS.out k hlt] at hnew
      have hbn : Below B w (wr.setCell ⟨g, j + k, none⟩ (.int .u8 (v / 2 ^ (8 * k) % 256))) := hbel.setCell hg _
      have hcj' : (wr.setCell ⟨g, j + k, none⟩ (.int .u8 (v / 2 ^ (8 * k) % 256))).cell? ⟨w.heap.size, 0, none⟩ = some (.int .i64 j) := by
        rw [← hcj]; exact World.cell?_of_block (Below.heap_setCell _ _ _ _ hne')
      generalize (ly zs j k v).getD (j + k) 0 = z0 at *
      have HNEW := TW.hide hnew
      have HBN := TW.hide hbn
      have HCJ := TW.hide hcj'
      clear hnew hbn hown hbel hcj'
      go_wp2
      have hw1 : IntKind.i64.wrap (8 * (k : Int)) = 8 * (k : Int) := by rw [IntKind.wrap_i64]; omega
      have hw2 : IntKind.i64.wrap ((j : Int) + (k : Int)) = (j : Int) + (k : Int) := by rw [IntKind.wrap_i64]; omega
      have hk8 : (0 : Int) ≤ 8 * (k : Int) := by omega
      have hi0 : (0 : Int) ≤ (j : Int) + (k : Int) := by omega
      have htn : ((j : Int) + (k : Int)).toNat = j + k := by omega
      have hi1 : (j : Int) + (k : Int) < (len : Int) := by omega
      go_region_held3 (fun w' => w'.cell? ⟨w.heap.size, 0, none⟩ = some (.int .i64 j)) (first | go_keep | (simp [*]; done)) (fail)
      go_wp2
      go_roundw
      case rel => exact ⟨k + 1, by omega, by go_num, HNEW.out.drew, HBN.out.drew, HCJ.out⟩
      case measure => simp [intOf]; omega
    · obtain rfl : k = n := by omega
      have HOW := TW.hide hown
      have HBE := TW.hide hbel
      clear hown hbel
      go_wp2
      go_end0
      exact ⟨rfl, HOW.out, HBE.out⟩
end LW
end Go.Proofs.Ytomdplcmbcjkfaa
