/-
  What the calls number and span.of give.
-/
import Derived.Test.YtomdplcmbcjkfaaPlain
namespace Go.Proofs.Ytomdplcmbcjkfaa
open Go.RowKit
set_option linter.unusedVariables false
namespace LW
open Words
/-- What parameters say in one of the nine fields. -/
def nv (d k f dp lf off xof nd inn : Int) (fd : Int) : Int := if fd = 1 then d else if fd = 2 then k else if fd = 3 then f else if fd = 4 then dp else if fd = 5 then lf else if fd = 6 then off else if fd = 7 then xof else if fd = 8 then nd else inn
set_option maxHeartbeats 4000000 in
theorem number (d k f dp lf off xof nd inn : Int) (sa ta : Option Addr) (sl tl sc tc : Nat) (fd : Int) (w : World) (h1 : 1 ≤ fd) (h9 : fd ≤ 9) (u0 : 0 ≤ d ∧ d < 18446744073709551616) (u1 : 0 ≤ k ∧ k < 18446744073709551616) (u2 : 0 ≤ f ∧ f < 18446744073709551616) (u3 : 0 ≤ dp ∧ dp < 18446744073709551616) (u4 : 0 ≤ lf ∧ lf < 18446744073709551616) (u5 : 0 ≤ off ∧ off < 18446744073709551616) (u6 : 0 ≤ xof ∧ xof < 18446744073709551616) (u7 : 0 ≤ nd ∧ nd < 18446744073709551616) (u8 : 0 ≤ inn ∧ inn < 18446744073709551616) :
    Calls Try.prog 23 #[.agg (pc d k f dp lf off xof nd inn (.slice sa sl sc) (.slice ta tl tc)), .int .i64 fd] w fun e w' => e = .returned (.int .u64 (nv d k f dp lf off xof nd inn fd)) ∧ Below w.heap.size w w' := by
  have hb := (Below.refl w.heap.size w).alloc (Nat.le_refl _) (.cells #[.int .i64 d, .int .i64 k, .int .i64 f, .int .i64 dp, .int .u32 lf, .int .u64 off, .int .u32 xof, .int .i64 nd, .int .i64 inn, .slice sa sl sc, .slice ta tl tc] 26)
  have q0 := heap_alloc_new w (.cells #[.int .i64 d, .int .i64 k, .int .i64 f, .int .i64 dp, .int .u32 lf, .int .u64 off, .int .u32 xof, .int .i64 nd, .int .i64 inn, .slice sa sl sc, .slice ta tl tc] 26)
  have w0 : IntKind.u64.wrap d = d := by rw [IntKind.wrap_u64]; omega
  have w1 : IntKind.u64.wrap k = k := by rw [IntKind.wrap_u64]; omega
  have w2 : IntKind.u64.wrap f = f := by rw [IntKind.wrap_u64]; omega
  have w3 : IntKind.u64.wrap dp = dp := by rw [IntKind.wrap_u64]; omega
  have w4 : IntKind.u64.wrap lf = lf := by rw [IntKind.wrap_u64]; omega
  have w5 : IntKind.u64.wrap off = off := by rw [IntKind.wrap_u64]; omega
  have w6 : IntKind.u64.wrap xof = xof := by rw [IntKind.wrap_u64]; omega
  have w7 : IntKind.u64.wrap nd = nd := by rw [IntKind.wrap_u64]; omega
  have w8 : IntKind.u64.wrap inn = inn := by rw [IntKind.wrap_u64]; omega
  unfold pc
  have hf : fd = 1 ∨ fd = 2 ∨ fd = 3 ∨ fd = 4 ∨ fd = 5 ∨ fd = 6 ∨ fd = 7 ∨ fd = 8 ∨ fd = 9 := by omega
  clear u0 u1 u2 u3 u4 u5 u6 u7 u8 h1 h9
  go_enter Try.func23, Try.ntmps23
  refine wp_seq_k fun K hK => ?_
  have HK := TW.hide hK
  clear hK
  go_wp2
  refine HK.out _ _ ?_
  clear HK K
  generalize w.alloc (.cells #[.int .i64 d, .int .i64 k, .int .i64 f, .int .i64 dp, .int .u32 lf, .int .u64 off, .int .u32 xof, .int .i64 nd, .int .i64 inn, .slice sa sl sc, .slice ta tl tc] 26) = W at hb q0 ⊢
  have c0 := blk_cell q0 (i := 0) (v := .int .i64 d) rfl
  have c1 := blk_cell q0 (i := 1) (v := .int .i64 k) rfl
  have c2 := blk_cell q0 (i := 2) (v := .int .i64 f) rfl
  have c3 := blk_cell q0 (i := 3) (v := .int .i64 dp) rfl
  have c4 := blk_cell q0 (i := 4) (v := .int .u32 lf) rfl
  have c5 := blk_cell q0 (i := 5) (v := .int .u64 off) rfl
  have c6 := blk_cell q0 (i := 6) (v := .int .u32 xof) rfl
  have c7 := blk_cell q0 (i := 7) (v := .int .i64 nd) rfl
  have c8 := blk_cell q0 (i := 8) (v := .int .i64 inn) rfl
  have HB := TW.hide hb
  clear hb q0
  generalize Value.agg #[.int .i64 d, .int .i64 k, .int .i64 f, .int .i64 dp, .int .u32 lf, .int .u64 off, .int .u32 xof, .int .i64 nd, .int .i64 inn, .slice sa sl sc, .slice ta tl tc] = V0
  rcases hf with rfl | rfl | rfl | rfl | rfl | rfl | rfl | rfl | rfl
  all_goals
    go_wp2
    go_ret
    exact ⟨rfl, HB.out⟩
set_option maxHeartbeats 1000000 in
theorem spanOf (b off cap len j n : Nat) (w : World) (h : j + n ≤ len) (hc : len ≤ cap) (hjc : j < cap) (hm : cap ≤ maxLen) :
    Calls Try.prog 25 #[.agg #[.int .i64 j, .int .i64 n], .slice (some ⟨b, off, none⟩) len cap] w fun e w' => e = .returned (.slice (some ⟨b, off + j, none⟩) n (cap - j)) ∧ Below w.heap.size w w' := by
  unfold maxLen at hm
  have hj : (0 : Int) ≤ (j : Int) := by omega
  have hw : IntKind.i64.wrap ((j : Int) + (n : Int)) = (j : Int) + (n : Int) := by rw [IntKind.wrap_i64]; omega
  go_enter Try.func25, Try.ntmps25
  go_wp2

  go_ret
  refine ⟨?_, (Below.refl _ _).alloc (Nat.le_refl _) _⟩
  show Ending.returned (.slice (some ⟨b, off + j, none⟩) (j + n - j) (cap - j)) = _
  rw [Nat.add_sub_cancel_left]
/-- The cell that a number makes in a field. -/
def nk (fd n : Int) : Value := if fd = 5 ∨ fd = 7 then .int .u32 n else if fd = 6 then .int .u64 n else .int .i64 n
set_option maxHeartbeats 4000000 in
theorem setNumber (b : Nat) (v0 v1 v2 v3 v4 v5 v6 v7 v8 v9 v10 : Value) (fd n : Int) (w : World) (h : w.heap[b]? = some (.cells #[v0, v1, v2, v3, v4, v5, v6, v7, v8, v9, v10] 26 (0, 0))) (h1 : 1 ≤ fd) (h9 : fd ≤ 9) (n0 : 0 ≤ n) (n1 : fd ≠ 6 → n < 4294967296) (n2 : fd ≠ 6 → fd ≠ 5 → fd ≠ 7 → n ≤ 255) (n3 : n < 18446744073709551616) :
    Calls Try.prog 28 #[.pointer (some ⟨b, 0, none⟩), .int .i64 fd, .int .u64 n] w fun e w' => e = .returned (.tuple #[]) ∧ w' = w.setCell ⟨b, (fd - 1).toNat, none⟩ (nk fd n) := by
  have hf : fd = 1 ∨ fd = 2 ∨ fd = 3 ∨ fd = 4 ∨ fd = 5 ∨ fd = 6 ∨ fd = 7 ∨ fd = 8 ∨ fd = 9 := by omega
  obtain ⟨c0, c1, c2, c3, c4, c5, c6, c7, c8, c9, c10, f0, f1, f2, f3, f4, f5, f6, f7, f8, f9, f10⟩ := cells11 h
  clear h
  have hw : fd ≠ 6 → IntKind.u32.wrap n = n := fun h => by rw [IntKind.wrap_u32]; have := n1 h; omega
  have hm : n ≤ 2147483647 ∨ (¬ n ≤ 2147483647 ∧ 2147483647 < n ∧ (fd = 5 ∨ fd = 6 ∨ fd = 7)) := by
    by_cases h : n ≤ 2147483647
    · exact .inl h
    · refine .inr ⟨h, by omega, ?_⟩
      by_cases h6 : fd = 6
      · omega
      · by_cases h5 : fd = 5
        · omega
        · by_cases h7 : fd = 7
          · omega
          · have := n2 h6 h5 h7; omega
  clear n1 n2 h1 h9
  rcases hm with hm | ⟨hm, hm', hc⟩
  · rcases hf with rfl | rfl | rfl | rfl | rfl | rfl | rfl | rfl | rfl
    all_goals
      first | have hw' := hw (by omega) | skip
      clear hw
      go_enter Try.func28, Try.ntmps28
      go_wp2
      go_end0
      first | exact ⟨rfl, rfl⟩ | exact ⟨rfl, by rw [Int.min_eq_left hm]; rfl⟩
  · clear hf
    rcases hc with rfl | rfl | rfl
    all_goals
      first | have hw' := hw (by omega) | skip
      clear hw
      go_enter Try.func28, Try.ntmps28
      go_wp2
      go_end0
      exact ⟨rfl, rfl⟩
end LW
end Go.Proofs.Ytomdplcmbcjkfaa
