/-
  What the call places of the document gives: four places, no two the same?
-/
import Derived.Test.YtecepllidmkmhabDoorRoundL
import Derived.Test.YtecepllidmkmhabDoorOrder
namespace Go.Proofs.YtecepllidmkmhabDoor
open Go.RowKit
set_option linter.unusedVariables false
set_option linter.unusedSimpArgs false
namespace MX
open Turn
attribute [local go_sem ↓] Go.wp_at_zero Go.wp_at_succ
/-- Is it a place? -/
def pB (a : Int) : Bool := decide (0 ≤ a) && decide (a < 16)
/-- Are they four places, no two the same? -/
def fpB (a b c d : Int) : Bool := (a != b) && (a != c) && (a != d) && (b != c) && (b != d) && (c != d) && pB a && pB b && pB c && pB d
theorem fpB_bad (a b c d : Int) (i : Nat) (hi : i < 4) (h : [a, b, c, d].getD i 0 < 0 ∨ 15 < [a, b, c, d].getD i 0) : fpB a b c d = false := by
  have : i = 0 ∨ i = 1 ∨ i = 2 ∨ i = 3 := by omega
  rcases this with rfl | rfl | rfl | rfl <;> simp at h <;> (simp [fpB, pB]; omega)
theorem fpB_same (a b c d : Int) (i j : Nat) (hi : i < 4) (hj : j < i) (h : [a, b, c, d].getD i 0 = [a, b, c, d].getD j 0) : fpB a b c d = false := by
  have : (i = 1 ∧ j = 0) ∨ (i = 2 ∧ j = 0) ∨ (i = 2 ∧ j = 1) ∨ (i = 3 ∧ j = 0) ∨ (i = 3 ∧ j = 1) ∨ (i = 3 ∧ j = 2) := by omega
  rcases this with ⟨rfl, rfl⟩ | ⟨rfl, rfl⟩ | ⟨rfl, rfl⟩ | ⟨rfl, rfl⟩ | ⟨rfl, rfl⟩ | ⟨rfl, rfl⟩ <;> simp at h <;> (simp [fpB, pB]; omega)
/-- The first are places, and each is none ahead of it. -/
def okTo (l : List Int) (n : Nat) : Prop := ∀ i, i < n → (0 ≤ l.getD i 0 ∧ l.getD i 0 ≤ 15) ∧ ∀ j, j < i → l.getD i 0 ≠ l.getD j 0
theorem fpB_ok (a b c d : Int) (h : okTo [a, b, c, d] 4) : fpB a b c d = true := by
  obtain ⟨⟨h0, h0'⟩, _⟩ := h 0 (by omega)
  obtain ⟨⟨h1, h1'⟩, e1⟩ := h 1 (by omega)
  obtain ⟨⟨h2, h2'⟩, e2⟩ := h 2 (by omega)
  obtain ⟨⟨h3, h3'⟩, e3⟩ := h 3 (by omega)
  have e10 := e1 0 (by omega)
  have e20 := e2 0 (by omega)
  have e21 := e2 1 (by omega)
  have e30 := e3 0 (by omega)
  have e31 := e3 1 (by omega)
  have e32 := e3 2 (by omega)
  simp at *
  simp [fpB, pB]
  omega
theorem fpB_spec {a b c d : Int} (h : fpB a b c d = true) : 0 ≤ a ∧ a < 16 ∧ 0 ≤ b ∧ b < 16 ∧ 0 ≤ c ∧ c < 16 ∧ 0 ≤ d ∧ d < 16 ∧ a ≠ b ∧ a ≠ c ∧ a ≠ d ∧ b ≠ c ∧ b ≠ d ∧ c ≠ d := by
  simp [fpB, pB] at h
  omega
theorem fpB_of {a b c d : Int} (h : 0 ≤ a ∧ a < 16 ∧ 0 ≤ b ∧ b < 16 ∧ 0 ≤ c ∧ c < 16 ∧ 0 ≤ d ∧ d < 16 ∧ a ≠ b ∧ a ≠ c ∧ a ≠ d ∧ b ≠ c ∧ b ≠ d ∧ c ≠ d) : fpB a b c d = true := by
  simp [fpB, pB]
  omega
set_option maxRecDepth 100000 in
set_option maxHeartbeats 2000000 in
theorem rplaces (a b c d : Int) (w : World) : Calls Tryd.prog 51 #[.int .i64 a, .int .i64 b, .int .i64 c, .int .i64 d] w fun e w' => e = .returned (.bool (fpB a b c d)) ∧ Below w.heap.size w w' := by
  have hb := ((Below.refl w.heap.size w).alloc (Nat.le_refl _) (.cells (K .i64 [a, b, c, d]) 3))
  have n0 := (heap_new w (.cells (K .i64 [a, b, c, d]) 3))
  go_enter Tryd.func51, Tryd.ntmps51
  refine wp_seq_k fun K hK => ?_
  have HK := TW.hide hK
  clear hK
  go_wp2
  refine HK.out _ _ ?_
  clear HK K
  refine wp_seq_k fun K hK => ?_
  have HK := TW.hide hK
  clear hK
  go_wp2
  refine HK.out _ _ ?_
  clear HK K
  change Code.wp _ _ _ _ (w.alloc (.cells (K .i64 [a, b, c, d]) 3))
  generalize hWW : w.alloc (.cells (K .i64 [a, b, c, d]) 3) = W at hb n0 ⊢
  have hW : W.heap.size = w.heap.size + 1 := by rw [← hWW]; simp
  clear hWW
  generalize hB : w.heap.size = B at *
  have f1 := fun i hi h => fpB_bad a b c d i hi h
  have f2 := fun i j hi hj h => fpB_same a b c d i j hi hj h
  have f3 := fpB_ok a b c d
  generalize fpB a b c d = q at *
  have hl : [a, b, c, d].length = 4 := rfl
  generalize [a, b, c, d] = l at *
  have H0 := TW.hide n0
  have HB := TW.hide hb
  have F1 := TW.hide f1
  have F2 := TW.hide f2
  have F3 := TW.hide f3
  have HL := TW.hide hl
  clear n0 hb f1 f2 f3 hl
  clear hW hB
  go_wp2
  go_loopw [10] (fun i wr => ∃ k : Nat, k ≤ 4 ∧ i = .int .i64 k ∧ okTo l k ∧ wr.heap[B]? = some (.cells (K .i64 l) 3 (0, 0)) ∧ Below B w wr) (fun i _ => 4 - (intOf i).toNat)
  case atStart => exact ⟨0, Nat.zero_le _, rfl, fun i hi => absurd hi (by omega), H0.out, HB.out⟩
  case round =>
    obtain ⟨k, hk, rfl, hok, n0, hb⟩ := hrel
    clear H0 HB
    have HOK := TW.hide hok
    have N0 := TW.hide n0
    have NB := TW.hide hb
    by_cases hlt : k < 4
    · have hk0 : (0 : Int) ≤ (k : Int) := by omega
      have hk1 : (k : Int) < 4 := by omega
      have hc := blk_cellK n0 (i := k) (by rw [HL.out]; exact hlt)
      have G1 := TW.hide (F1.out k hlt)
      have G2 := TW.hide (fun j => F2.out k j hlt)
      have HZ : Hid (l.getD k 0 = l.getD k 0) := rfl
      have HOK2 : Hid ((0 ≤ l.getD k 0 ∧ l.getD k 0 ≤ 15) → (∀ j, j < k → l.getD k 0 ≠ l.getD j 0) → okTo l (k + 1)) := fun h1 h2 i hi => by
        rcases Nat.lt_or_ge i k with h | h
        · exact HOK.out i h
        · obtain rfl : i = k := by omega
          exact ⟨h1, h2⟩
      generalize hz : l.getD k 0 = z at *
      have HZZ := TW.hide hz
      clear hz
      obtain ⟨e1, h1⟩ : ∃ e, decide (z < 0) = e := ⟨_, rfl⟩
      obtain ⟨e2, h2⟩ : ∃ e, decide (15 < z) = e := ⟨_, rfl⟩
      have E1 := TW.hide h1
      have E2 := TW.hide h2
      clear hok n0 hb HZ
      go_wp2
      · rename_i he
        go_ret
        exact ⟨LW.ret_bool (G1.out (.inl (by have := E1.out; rw [he] at this; simpa using this))).symm, NB.out⟩
      · rename_i he
        go_ret
        exact ⟨LW.ret_bool (G1.out (.inr (by have := E2.out; rw [he] at this; simpa using this))).symm, NB.out⟩
      · rename_i Q1 K1 a1 he1 he2
        have HA := TW.hide a1
        clear a1
        have HP : Hid (0 ≤ z ∧ z ≤ 15) := by
          have h1 := E1.out
          have h2 := E2.out
          rw [he2] at h2
          rw [Bool.eq_false_iff.2 he1] at h1
          simp at h1 h2
          exact ⟨by omega, by omega⟩
        clear h1 h2 he1 he2 hc
        go_loopw [11] (fun i wr => ∃ j : Nat, j ≤ k ∧ i = .int .i64 j ∧ (∀ j', j' < j → z ≠ l.getD j' 0) ∧ wr.heap[B]? = some (.cells (K .i64 l) 3 (0, 0)) ∧ Below B w wr) (fun i _ => k - (intOf i).toNat)
        case atStart => exact ⟨0, Nat.zero_le _, rfl, fun j' hj => absurd hj (by omega), N0.out, NB.out⟩
        case round =>
          clear N0 NB
          obtain ⟨j, hj, rfl, hno, n0, hb⟩ := hrel
          have N0 := TW.hide n0
          have NB := TW.hide hb
          by_cases hlj : j < k
          · have hcj := blk_cellK n0 (i := j) (by rw [HL.out]; omega)
            have hck := blk_cellK n0 (i := k) (by rw [HL.out]; omega)
            rw [HZZ.out] at hck
            have hj0 : (0 : Int) ≤ (j : Int) := by omega
            have hj1 : (j : Int) < (k : Int) := by omega
            have hj2 : (j : Int) < 4 := by omega
            obtain ⟨y, hy⟩ : ∃ y, l.getD j 0 = y := ⟨_, rfl⟩
            rw [hy] at hcj
            have HY := TW.hide hy
            have HNO := TW.hide hno
            obtain ⟨e3, h3⟩ : ∃ e, (z == y) = e := ⟨_, rfl⟩
            have E3 := TW.hide h3
            clear hno n0 hb hy
            go_wp2
            go_quiet (fail)
            go_wp2
            · rename_i he
              go_ret
              exact ⟨LW.ret_bool (G2.out j hlj (by have := E3.out; rw [he] at this; rw [HY.out]; simpa using this)).symm, below_drewN NB.out _⟩
            · rename_i he
              go_roundw
              case rel =>
                refine ⟨j + 1, by omega, by go_num, fun j' hj' => ?_, N0.out, below_drewN NB.out _⟩
                rcases Nat.lt_or_ge j' j with h | h
                · exact HNO.out j' h
                · obtain rfl : j' = j := by omega
                  rw [HY.out]
                  have := E3.out
                  rw [he] at this
                  simpa using this
              case measure => simp [intOf]; omega
          · obtain rfl : j = k := by omega
            have HNO := TW.hide (HOK2.out HP.out hno)
            clear hno n0 hb
            go_wp2
            refine HA.out _ _ ?_
            go_wp2
            go_roundw
            case rel => exact ⟨j + 1, by omega, by go_num, HNO.out, N0.out, NB.out⟩
            case measure => simp [intOf]; omega
    · obtain rfl : k = 4 := by omega
      have e := F3.out hok
      have E := TW.hide e
      clear hok n0 hb e
      go_wp2
      go_ret
      exact ⟨LW.ret_bool E.out.symm, NB.out⟩
end MX
end Go.Proofs.YtecepllidmkmhabDoor
