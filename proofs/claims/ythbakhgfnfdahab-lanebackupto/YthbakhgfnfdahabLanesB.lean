/-
  What the calls of the program on a round's bytes and a lane's number of bytes give.
-/
import Derived.Test.YthbakhgfnfdahabLanes
import Derived.Deep.RegionHeld3
namespace Go.Proofs.Ythbakhgfnfdahab
open Go.RowKit
set_option linter.unusedVariables false
set_option linter.unusedSimpArgs false
namespace LW
open Words
theorem nlbb (k : Int) : nl k * bb k = 512 ∨ (nl k = 0 ∧ bb k = 128) := by
  rcases kinds k with rfl | rfl | ⟨h1, h2⟩
  · left; decide
  · left; decide
  · right; simp [nl, bb, h1, h2]
theorem roundBytes (k d y : Int) (s p : Value) (w : World) (hk : k = 1 ∨ k = 2) : Calls Try.prog 15 #[.agg (shC k d y s p)] w fun e w' => e = .returned (.int .i64 512) ∧ Below w.heap.size w w' := by
  have HL := TW.hide (fun W => lanes k d y s p W)
  have HBB := TW.hide (fun W => blockBytes k d y s p W)
  have hm : (nl k = 4 ∧ bb k = 128) ∨ (nl k = 8 ∧ bb k = 64) := by
    rcases hk with rfl | rfl
    · left; decide
    · right; decide
  generalize nl k = n at *
  generalize bb k = B at *
  clear hk
  have hn := heap_alloc_new w (.cells #[.int .i64 k, .int .i64 d, .int .i64 y, s, p] 36)
  have hb : Below w.heap.size w (w.alloc (.cells #[.int .i64 k, .int .i64 d, .int .i64 y, s, p] 36)) := (Below.refl _ _).alloc (Nat.le_refl _) _
  have hl : w.heap.size < (w.alloc (.cells #[.int .i64 k, .int .i64 d, .int .i64 y, s, p] 36)).heap.size := by simp
  have HN := TW.hide hn
  have HB := TW.hide hb
  have HE := TW.hide hl
  clear hn hb hl
  have hmul : (n : Int) * (B : Int) = 512 := by rcases hm with ⟨rfl, rfl⟩ | ⟨rfl, rfl⟩ <;> rfl
  clear hm
  unfold shC at *
  go_enter Try.func15, Try.ntmps15
  go_wp2_with fail
  have hN := HN.out
  have hB := HB.out
  have hE := HE.out
  generalize w.alloc _ = W at hN hB hE ⊢
  clear HN HB HE
  obtain ⟨c0, c1, c2, c3, c4⟩ := cells5 hN
  go_region_held3 (fun w' => w'.cell? ⟨w.heap.size, 0, none⟩ = some (.int .i64 k) ∧ w'.cell? ⟨w.heap.size, 1, none⟩ = some (.int .i64 d) ∧ w'.cell? ⟨w.heap.size, 2, none⟩ = some (.int .i64 y) ∧ w'.cell? ⟨w.heap.size, 3, none⟩ = some s ∧ w'.cell? ⟨w.heap.size, 4, none⟩ = some p)
    (first | go_keep | (refine ⟨?_, ?_, ?_, ?_, ?_⟩ <;> rw [hb2.cell hE] <;> assumption) | (refine ⟨?_, ?_, ?_, ?_, ?_⟩ <;> rw [hb3.cell (Nat.lt_of_lt_of_le hE hb2.size), hb2.cell hE] <;> assumption))
    (first | (go_at_call 12; refine (HL.out _).mono ?_; rintro e w2 ⟨rfl, hb2⟩) | (go_at_call 14; refine (HBB.out _).mono ?_; rintro e w3 ⟨rfl, hb3⟩))
  have HX : Hid (Below w.heap.size w w3) := (hB.trans ((show Below W.heap.size W w2 from below_of_drew hb2).mono (by omega))).trans (hb3.mono (by have := hb2.size; simp at this; omega))
  clear hb2 hb3 hN hB
  go_wp2
  go_ret
  exact ⟨rfl, HX.out⟩
theorem laneBytes (k d y : Int) (s p : Value) (i T : Nat) (w : World) (hk : k = 1 ∨ k = 2) (hi : i ≤ 8) (hT : T ≤ 4503599627370496) : Calls Try.prog 13 #[.agg (shC k d y s p), .int .i64 i, .int .i64 T] w fun e w' => e = .returned (.int .i64 (cnt (bb k) i T : Nat)) ∧ Below w.heap.size w w' := by
  have HR := TW.hide (fun W => roundBytes k d y s p W hk)
  have HBB := TW.hide (fun W => blockBytes k d y s p W)
  have hm : bb k = 128 ∨ bb k = 64 := by
    rcases hk with rfl | rfl
    · left; decide
    · right; decide
  generalize bb k = B at *
  clear hk
  have hn := heap_alloc_new w (.cells #[.int .i64 k, .int .i64 d, .int .i64 y, s, p] 36)
  have hb : Below w.heap.size w (w.alloc (.cells #[.int .i64 k, .int .i64 d, .int .i64 y, s, p] 36)) := (Below.refl _ _).alloc (Nat.le_refl _) _
  have hl : w.heap.size < (w.alloc (.cells #[.int .i64 k, .int .i64 d, .int .i64 y, s, p] 36)).heap.size := by simp
  have HN := TW.hide hn
  have HB := TW.hide hb
  have HE := TW.hide hl
  clear hn hb hl
  obtain ⟨q, hq⟩ : ∃ q, T / 512 = q := ⟨_, rfl⟩
  obtain ⟨r, hr⟩ : ∃ r, T % 512 = r := ⟨_, rfl⟩
  obtain ⟨m, hmm⟩ : ∃ m, q * B = m := ⟨_, rfl⟩
  obtain ⟨j, hj⟩ : ∃ j, i * B = j := ⟨_, rfl⟩
  have e1 : (T : Int).tdiv 512 = (q : Int) := by rw [Int.tdiv_eq_ediv_of_nonneg (by omega)]; omega
  have e2 : (T : Int).tmod 512 = (r : Int) := by rw [Int.tmod_eq_emod_of_nonneg (by omega)]; omega
  have e1' : (T : Int) / 512 = (q : Int) := by omega
  have e2' : (T : Int) % 512 = (r : Int) := by omega
  have e3 : (q : Int) * (B : Int) = (m : Int) := by rw [← hmm]; simp
  have e4 : (i : Int) * (B : Int) = (j : Int) := by rw [← hj]; simp
  have HC : Hid (cnt B i T = m + min (r - j) B) := by show cnt B i T = _; rw [cnt, hq, hr, hmm, hj]
  have hmB : m ≤ T := by rw [← hmm]; rcases hm with rfl | rfl <;> omega
  have hjB : j ≤ 1024 := by rw [← hj]; rcases hm with rfl | rfl <;> omega
  have hrB : r < 512 := by omega
  have hBB : B ≤ 128 := by omega
  have x1 : IntKind.i64.wrap (q : Int) = q := by rw [IntKind.wrap_i64]; omega
  have x2 : IntKind.i64.wrap (m : Int) = m := by rw [IntKind.wrap_i64]; omega
  have x3 : IntKind.i64.wrap (r : Int) = r := by rw [IntKind.wrap_i64]; omega
  have x4 : IntKind.i64.wrap (j : Int) = j := by rw [IntKind.wrap_i64]; omega
  have x5 : IntKind.i64.wrap ((r : Int) - (j : Int)) = (r : Int) - (j : Int) := by rw [IntKind.wrap_i64]; omega
  clear hm hq hr hmm hj
  unfold shC at *
  go_enter Try.func13, Try.ntmps13
  go_wp2_with fail
  have hN := HN.out
  have hB := HB.out
  have hE := HE.out
  generalize w.alloc _ = W at hN hB hE ⊢
  clear HN HB HE
  obtain ⟨c0, c1, c2, c3, c4⟩ := cells5 hN
  go_region_held3 (fun w' => w'.cell? ⟨w.heap.size, 0, none⟩ = some (.int .i64 k) ∧ w'.cell? ⟨w.heap.size, 1, none⟩ = some (.int .i64 d) ∧ w'.cell? ⟨w.heap.size, 2, none⟩ = some (.int .i64 y) ∧ w'.cell? ⟨w.heap.size, 3, none⟩ = some s ∧ w'.cell? ⟨w.heap.size, 4, none⟩ = some p)
    (first | go_keep | (refine ⟨?_, ?_, ?_, ?_, ?_⟩ <;> rw [hb2.cell hE] <;> assumption) | (refine ⟨?_, ?_, ?_, ?_, ?_⟩ <;> rw [hb3.cell (Nat.lt_of_lt_of_le hE hb2.size), hb2.cell hE] <;> assumption))
    (first | (go_at_call 15; refine (HR.out _).mono ?_; rintro e w2 ⟨rfl, hb2⟩) | (go_at_call 14; refine (HBB.out _).mono ?_; rintro e w3 ⟨rfl, hb3⟩))
  have hX := (hB.trans ((show Below W.heap.size W w2 from below_of_drew hb2).mono (by omega))).trans (hb3.mono (by have := hb2.size; simp at this; omega))
  have hN3 := blk_keep (blk_keep hN (show Below W.heap.size W w2 from below_of_drew hb2)) hb3
  have hE3 := blk_lt hN3
  clear hb2 hb3 hN hB hE c0 c1 c2 c3 c4
  obtain ⟨c0, c1, c2, c3, c4⟩ := cells5 hN3
  go_wp2
  go_region_held3 (fun w' => w'.cell? ⟨w.heap.size, 0, none⟩ = some (.int .i64 k) ∧ w'.cell? ⟨w.heap.size, 1, none⟩ = some (.int .i64 d) ∧ w'.cell? ⟨w.heap.size, 2, none⟩ = some (.int .i64 y) ∧ w'.cell? ⟨w.heap.size, 3, none⟩ = some s ∧ w'.cell? ⟨w.heap.size, 4, none⟩ = some p)
    (first | go_keep | (refine ⟨?_, ?_, ?_, ?_, ?_⟩ <;> rw [hb4.cell hE3] <;> assumption) | (refine ⟨?_, ?_, ?_, ?_, ?_⟩ <;> rw [hb5.cell (Nat.lt_of_lt_of_le hE3 hb4.size), hb4.cell hE3] <;> assumption))
    (first | (go_at_call 15; refine (HR.out _).mono ?_; rintro e w4 ⟨rfl, hb4⟩) | (go_at_call 14; refine (HBB.out _).mono ?_; rintro e w5 ⟨rfl, hb5⟩))
  have hX5 := (hX.trans ((show Below w3.heap.size w3 w4 from below_of_drew hb4).mono (by omega))).trans (hb5.mono (by have := hb4.size; simp at this; omega))
  have hN5 := blk_keep (blk_keep hN3 (show Below w3.heap.size w3 w4 from below_of_drew hb4)) hb5
  have hE5 := blk_lt hN5
  clear hb4 hb5 hN3 hX c0 c1 c2 c3 c4
  obtain ⟨c0, c1, c2, c3, c4⟩ := cells5 hN5
  have HX := TW.hide hX5
  clear hN5 hX5
  go_wp2_with fail
  refine (HBB.out _).mono ?_
  rintro e w6 ⟨rfl, hb6⟩
  have HX6 : Hid (Below w.heap.size w w6) := HX.out.trans (hb6.mono (by omega))
  clear hb6
  go_wp2
  go_ret
  exact ⟨TW.ret_int (by rw [HC.out]; omega), HX6.out⟩
end LW
end Go.Proofs.Ythbakhgfnfdahab
