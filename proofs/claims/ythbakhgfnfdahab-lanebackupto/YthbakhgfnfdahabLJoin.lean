/-
  What the program's Join gives, of whatever lanes.
-/
import Derived.Test.YthbakhgfnfdahabJoinP
namespace Go.Proofs.Ythbakhgfnfdahab
open Go.RowKit Go.ChangeShapes
set_option linter.unusedVariables false
set_option linter.unusedSimpArgs false
namespace LW
open Words
theorem ljoinNo (k : Int) (al : Option Addr) (N c : Nat) (ls : Nat → List Int) (w : World) (h0 : nl k = 0) :
    Calls Try.prog 6 #[.int .i64 k, .slice al N c] w fun e w' => JoP k N ls w e w' := by
  have h1 : ke k = 1 := by rcases ke_nl k with ⟨_, h⟩ | ⟨h, _⟩ <;> omega
  have hR : JoR k N ls 1 [] := .inl ⟨h0, rfl, rfl⟩
  have HC := TW.hide (fun W => count k W)
  rw [h1] at HC
  have HR := TW.hide hR
  generalize nl k = n at *
  clear h0 h1 hR
  go_enter Try.func6, Try.ntmps6
  go_wp2_with fail
  refine (HC.out _).mono ?_
  rintro e w1 ⟨rfl, hb⟩
  have HB := TW.hide hb
  clear hb
  go_wp2
  go_ret2
  exact ⟨1, [], _, HR.out, rfl, World.ownsRow_nil _ _ _ _, HB.out⟩
set_option maxHeartbeats 1000000 in
theorem ljoinB (k : Int) (al : Option Addr) (N c : Nat) (ls : Nat → List Int) (w : World) (h0 : 0 < nl k) (x : Bool) (hx : x = true ↔ (N = nl k ∧ Dealt (nl k) (bb k) ls))
    (HD : Hid (∀ W : World, Below w.heap.size w W → Calls Try.prog 10 #[.agg (shC k 0 0 (.slice none 0 0) (.slice none 0 0)), .slice al N c] W fun e w' => e = .returned (.bool x) ∧ Below W.heap.size W w'))
    (HJ : Hid (x = true → ∀ W : World, Below w.heap.size w W → Calls Try.prog 11 #[.agg (shC k 0 0 (.slice none 0 0) (.slice none 0 0)), .slice al N c] W fun e w' => ∃ v, e = .returned v ∧ w'.ownsRow W.heap.size 5 1 v (sumN (fun r => (ls r).length) N) (vs (joL (nl k) (bb k) ls (sumN (fun r => (ls r).length) N))) ∧ Below W.heap.size W w')) :
    Calls Try.prog 6 #[.int .i64 k, .slice al N c] w fun e w' => JoP k N ls w e w' := by
  have h1 : ke k = 0 := by rcases ke_nl k with ⟨h, _⟩ | ⟨_, h⟩ <;> omega
  have HC := TW.hide (fun W => count k W)
  rw [h1] at HC
  have HR1 : Hid (x = false → JoR k N ls 80 []) := fun h => .inr (.inl ⟨h0, (fun h2 => by rw [hx.2 h2] at h; cases h), rfl, rfl⟩)
  have HR2 : Hid (x = true → JoR k N ls 0 (joL (nl k) (bb k) ls (sumN (fun r => (ls r).length) N))) := fun h => .inr (.inr ⟨h0, hx.1 h, rfl, rfl⟩)
  have HJL := TW.hide (joL_length (nl k) (bb k) ls (sumN (fun r => (ls r).length) N))
  generalize joL (nl k) (bb k) ls (sumN (fun r => (ls r).length) N) = J at *
  generalize sumN (fun r => (ls r).length) N = T at *
  generalize nl k = n at *
  clear h0 h1 hx
  unfold shC at *
  go_enter Try.func6, Try.ntmps6
  go_wp2_with fail
  refine (HC.out _).mono ?_
  rintro e w1 ⟨rfl, hb1⟩
  have B1 := TW.hide hb1
  clear hb1
  have A1 := TW.hide (heap_alloc_new w1 (.cells #[.int .i64 0, .int .i64 0, .int .i64 0, .slice none 0 0, .slice none 0 0] 36))
  have A2 := setRow_heap _ _ _ #[.int .i64 k, .int .i64 0, .int .i64 0, .slice none 0 0, .slice none 0 0] _ _ A1.out
  have B2 : Hid (Below w.heap.size w ((w1.alloc (.cells #[.int .i64 0, .int .i64 0, .int .i64 0, .slice none 0 0, .slice none 0 0] 36)).setRow w1.heap.size #[.int .i64 k, .int .i64 0, .int .i64 0, .slice none 0 0, .slice none 0 0])) := below_setRow (B1.out.alloc B1.out.size _) B1.out.size
  obtain ⟨c0, c1, c2, c3, c4⟩ := cells5 A2
  have N2 := TW.hide A2
  clear A2
  go_wp2_with (first | (refine wpList_store_row (by rfl) 36 _ _ (by rfl) w1.heap.size #[.int .i64 k, .int .i64 0, .int .i64 0, .slice none 0 0, .slice none 0 0] (by rfl) (by rfl) 36 _ A1.out (by kernel_rfl) (by rfl) (by simp [Value.oneCell']) ?_))
  clear A1
  generalize hgg : w1.heap.size = g at *
  generalize (w1.alloc (.cells #[.int .i64 0, .int .i64 0, .int .i64 0, .slice none 0 0, .slice none 0 0] 36)).setRow g #[.int .i64 k, .int .i64 0, .int .i64 0, .slice none 0 0, .slice none 0 0] = X at *
  refine (HD.out _ B2.out).mono ?_
  rintro e w3 ⟨rfl, hb3⟩
  have N3 := blk_keep N2.out hb3
  have B3 : Hid (Below w.heap.size w w3) := below_row B2.out hb3 B2.out.size
  clear hb3 N2 B2 B1 c0 c1 c2 c3 c4 hgg
  obtain ⟨c0, c1, c2, c3, c4⟩ := cells5 N3
  clear N3
  cases x with
  | false =>
    go_wp2
    go_ret2
    exact ⟨80, [], _, HR1.out (by simp), rfl, World.ownsRow_nil _ _ _ _, B3.out⟩
  | true =>
    go_wp2_with fail
    refine (HJ.out (by simp) _ B3.out).mono ?_
    rintro e w4 ⟨v, rfl, ho, hb4⟩
    have O4 : Hid (w4.ownsRow w.heap.size 5 1 v J.length (vs J)) := by
      show World.ownsRow _ _ _ _ _ _ _
      rw [HJL.out]
      exact own_mono' ho B3.out.size
    have B4 : Hid (Below w.heap.size w w4) := below_row B3.out hb4 B3.out.size
    clear ho hb4
    go_wp2
    go_ret2
    exact ⟨0, J, _, HR2.out (by simp), rfl, O4.out, B4.out⟩
open Classical in
theorem ljoin (k : Int) (al : Option Addr) (N c : Nat) (ls : Nat → List Int) (w : World) (hN : N ≤ 1048576) (hM : N = nl k → 0 < nl k → ∃ b off A K, al = some ⟨b, off, none⟩ ∧ Mb w b off N A K ls) :
    Calls Try.prog 6 #[.int .i64 k, .slice al N c] w fun e w' => JoP k N ls w e w' := by
  rcases Nat.eq_zero_or_pos (nl k) with h0 | h0
  · exact ljoinNo k al N c ls w h0
  · have hk : k = 1 ∨ k = 2 := by
      rcases kinds k with h | h | h
      · exact .inl h
      · exact .inr h
      · simp [nl, h.1, h.2] at h0
    by_cases hNn : N = nl k
    · obtain ⟨b, off, A, K, rfl, hMb⟩ := hM hNn h0
      subst hNn
      by_cases hd : Dealt (nl k) (bb k) ls
      · refine ljoinB k _ _ c ls w h0 true ⟨fun _ => ⟨rfl, hd⟩, fun _ => rfl⟩ (fun W hW => ?_) (fun _ W hW => ?_)
        · refine (dealtB k 0 0 _ _ b off c A K ls W hk (hMb.below hW)).mono ?_
          rintro e w' ⟨x, rfl, hx, hb⟩
          rw [hx.2 hd]
          exact ⟨rfl, hb⟩
        · exact joinB k 0 0 _ _ b off c A K ls W hk (hMb.below hW) hd
      · refine ljoinB k _ _ c ls w h0 false ⟨(fun h => by cases h), fun h => absurd h.2 hd⟩ (fun W hW => ?_) (fun h => by cases h)
        refine (dealtB k 0 0 _ _ b off c A K ls W hk (hMb.below hW)).mono ?_
        rintro e w' ⟨x, rfl, hx, hb⟩
        cases x with
        | false => exact ⟨rfl, hb⟩
        | true => exact absurd (hx.1 rfl) hd
    · refine ljoinB k _ _ c ls w h0 false ⟨(fun h => by cases h), fun h => absurd h.1 hNn⟩ (fun W hW => ?_) (fun h => by cases h)
      exact dealtNo k 0 0 _ _ al N c W hNn hN
end LW
end Go.Proofs.Ythbakhgfnfdahab
