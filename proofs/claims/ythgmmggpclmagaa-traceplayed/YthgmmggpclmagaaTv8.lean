/-
 The program's Valid and Runners.
-/
import Derived.Test.YthgmmggpclmagaaTv7
namespace Go.Proofs.Ythgmmggpclmagaa
open Go.RowKit
set_option linter.unusedVariables false
set_option linter.unusedSimpArgs false
namespace LW
open Mc
set_option maxRecDepth 100000 in
set_option maxHeartbeats 4000000 in
theorem ptvalid (s : Syst) (pa : Option Addr) (pc : Nat) (ra : Option Addr) (rc : Nat) (la : Option Addr) (lc : Nat) (l : List Ev) (w : World) (hs : SyI w s pa ra) (hl : EvI w la lc l) :
  Calls Try.prog 6 #[.agg #[.slice pa s.progs.length pc, .slice ra s.rooms.length rc, .int .i64 s.groups, .int .i64 s.locks, .int .i64 s.cells], .slice la l.length lc] w fun e w' => e = .returned (.tuple #[.int .i64 (Tr.vR s l).1, .int .i64 (Tr.vR s l).2.2]) ∧ Below w.heap.size w w' := by
 obtain ⟨va, vn, ve, hV⟩ : ∃ a n e, Tr.vR s l = (a, n, e) := ⟨_, _, _, rfl⟩
 have HRd : Hid (∀ W, Below w.heap.size w W → Calls Try.prog 13 #[.agg #[.slice pa s.progs.length pc, .slice ra s.rooms.length rc, .int .i64 s.groups, .int .i64 s.locks, .int .i64 s.cells], .slice la l.length lc] W fun e w' => ∃ hc, e = .returned (.tuple #[.agg hc, .int .i64 va, .int .i64 ve]) ∧ (ve = 0 → hc = #[.slice pa s.progs.length pc, .slice ra s.rooms.length rc, .int .i64 s.groups, .int .i64 s.locks, .int .i64 s.cells, .slice la l.length lc, .int .i64 (Tr.rnC l : Int)]) ∧ (ve ≠ 0 → hc = #[.slice none 0 0, .slice none 0 0, .int .i64 0, .int .i64 0, .int .i64 0, .slice none 0 0, .int .i64 0]) ∧ Below W.heap.size W w') := fun W hW => (pread s pa pc ra rc la lc l W (hs.below hW) (hl.below hW)).mono (fun e w' h => by unfold ReaQ at h; rw [hV] at h; exact h)
 have HVo : Hid (ve = 0 → vn = (Tr.rnC l : Int)) := fun h => by
  have h2 := (Tr.vR_ok (s := s) (l := l) (by rw [hV]; exact h)).2.2.2
  rw [hV] at h2
  injection h2 with _ h2
  injection h2
 have HVn : Hid (ve ≠ 0 → vn = 0) := fun h => by
  have h2 := Tr.vR_ne (s := s) (l := l) (by rw [hV]; exact h)
  rw [hV] at h2
  exact h2
 rw [hV]
 clear hs hl hV
 dsimp only
 have hA : Below w.heap.size w (w.alloc (.cells #[.slice pa s.progs.length pc, .slice ra s.rooms.length rc, .int .i64 s.groups, .int .i64 s.locks, .int .i64 s.cells] 25)) := (Below.refl _ _).alloc (Nat.le_refl _) _
 have N1 : Hid ((w.alloc (.cells #[.slice pa s.progs.length pc, .slice ra s.rooms.length rc, .int .i64 s.groups, .int .i64 s.locks, .int .i64 s.cells] 25)).heap[w.heap.size]? = some (.cells #[.slice pa s.progs.length pc, .slice ra s.rooms.length rc, .int .i64 s.groups, .int .i64 s.locks, .int .i64 s.cells] 25 (0, 0))) := heap_alloc_new w _
 have NB := TW.hide hA
 clear hA
 go_enter Try.func6, Try.ntmps6
 refine wp_seq_k fun K hK => ?_
 have HK := TW.hide hK
 clear hK
 go_wp2
 refine HK.out _ _ ?_
 clear HK K
 generalize w.alloc _ = X at *
 obtain ⟨s0, s1, s2, s3, s4⟩ := cellsY5 N1.out
 go_wp2_with fail
 refine (HRd.out X NB.out).mono ?_
 rintro e1 W1 ⟨hc, rfl, h1, h2, hb⟩
 have NB1 : Hid (Below w.heap.size w W1) := NB.out.trans (hb.mono NB.out.size)
 clear hb NB N1 s0 s1 s2 s3 s4 HRd
 by_cases he : ve = 0
 ·obtain rfl := h1 he
  obtain rfl := HVo.out he
  have NB2 : Hid (Below w.heap.size w ((W1.alloc (.cells #[.slice none 0 0, .slice none 0 0, .int .i64 0, .int .i64 0, .int .i64 0, .slice none 0 0, .int .i64 0] 53)).setRow W1.heap.size #[.slice pa s.progs.length pc, .slice ra s.rooms.length rc, .int .i64 s.groups, .int .i64 s.locks, .int .i64 s.cells, .slice la l.length lc, .int .i64 (Tr.rnC l : Int)])) := below_setRow (NB1.out.alloc NB1.out.size _) NB1.out.size
  have N2 : Hid (((W1.alloc (.cells #[.slice none 0 0, .slice none 0 0, .int .i64 0, .int .i64 0, .int .i64 0, .slice none 0 0, .int .i64 0] 53)).setRow W1.heap.size #[.slice pa s.progs.length pc, .slice ra s.rooms.length rc, .int .i64 s.groups, .int .i64 s.locks, .int .i64 s.cells, .slice la l.length lc, .int .i64 (Tr.rnC l : Int)]).heap[W1.heap.size]? = some (.cells #[.slice pa s.progs.length pc, .slice ra s.rooms.length rc, .int .i64 s.groups, .int .i64 s.locks, .int .i64 s.cells, .slice la l.length lc, .int .i64 (Tr.rnC l : Int)] 53 (0, 0))) := setRow_heap _ _ _ _ _ _ (heap_alloc_new W1 _)
  clear he h1 h2 HVo HVn
  go_wp2_with (first | (refine wpList_store_row (by rfl) 53 _ _ (by rfl) W1.heap.size #[.slice pa s.progs.length pc, .slice ra s.rooms.length rc, .int .i64 s.groups, .int .i64 s.locks, .int .i64 s.cells, .slice la l.length lc, .int .i64 (Tr.rnC l : Int)] (by rfl) (by rfl) 53 _ (heap_alloc_new W1 _) (by kernel_rfl) (by rfl) (by simp [Value.oneCell']) ?_; generalize World.setRow _ _ _ = X2 at *; generalize W1.heap.size = g2 at *; have q6 : X2.cell? ⟨g2, 6, none⟩ = some (.int .i64 (Tr.rnC l : Int)) := blk_cell N2.out rfl) | fail)
  go_ret2
  exact ⟨rfl, NB2.out⟩
 ·obtain rfl := h2 he
  obtain rfl := HVn.out he
  have NB2 : Hid (Below w.heap.size w ((W1.alloc (.cells #[.slice none 0 0, .slice none 0 0, .int .i64 0, .int .i64 0, .int .i64 0, .slice none 0 0, .int .i64 0] 53)).setRow W1.heap.size #[.slice none 0 0, .slice none 0 0, .int .i64 0, .int .i64 0, .int .i64 0, .slice none 0 0, .int .i64 0])) := below_setRow (NB1.out.alloc NB1.out.size _) NB1.out.size
  have N2 : Hid (((W1.alloc (.cells #[.slice none 0 0, .slice none 0 0, .int .i64 0, .int .i64 0, .int .i64 0, .slice none 0 0, .int .i64 0] 53)).setRow W1.heap.size #[.slice none 0 0, .slice none 0 0, .int .i64 0, .int .i64 0, .int .i64 0, .slice none 0 0, .int .i64 0]).heap[W1.heap.size]? = some (.cells #[.slice none 0 0, .slice none 0 0, .int .i64 0, .int .i64 0, .int .i64 0, .slice none 0 0, .int .i64 0] 53 (0, 0))) := setRow_heap _ _ _ _ _ _ (heap_alloc_new W1 _)
  clear he h1 h2 HVo HVn
  go_wp2_with (first | (refine wpList_store_row (by rfl) 53 _ _ (by rfl) W1.heap.size #[.slice none 0 0, .slice none 0 0, .int .i64 0, .int .i64 0, .int .i64 0, .slice none 0 0, .int .i64 0] (by rfl) (by rfl) 53 _ (heap_alloc_new W1 _) (by kernel_rfl) (by rfl) (by simp [Value.oneCell']) ?_; generalize World.setRow _ _ _ = X2 at *; generalize W1.heap.size = g2 at *; have q6 : X2.cell? ⟨g2, 6, none⟩ = some (.int .i64 0) := blk_cell N2.out rfl) | fail)
  go_ret2
  exact ⟨rfl, NB2.out⟩
set_option maxRecDepth 100000 in
set_option maxHeartbeats 4000000 in
theorem prunners (s : Syst) (pa : Option Addr) (pc : Nat) (ra : Option Addr) (rc : Nat) (la : Option Addr) (lc : Nat) (l : List Ev) (w : World) (hs : SyI w s pa ra) (hl : EvI w la lc l) :
  Calls Try.prog 7 #[.agg #[.slice pa s.progs.length pc, .slice ra s.rooms.length rc, .int .i64 s.groups, .int .i64 s.locks, .int .i64 s.cells], .slice la l.length lc] w fun e w' => e = .returned (.tuple #[.int .i64 (Tr.vR s l).2.1, .int .i64 (Tr.vR s l).2.2]) ∧ Below w.heap.size w w' := by
 obtain ⟨va, vn, ve, hV⟩ : ∃ a n e, Tr.vR s l = (a, n, e) := ⟨_, _, _, rfl⟩
 have HRd : Hid (∀ W, Below w.heap.size w W → Calls Try.prog 13 #[.agg #[.slice pa s.progs.length pc, .slice ra s.rooms.length rc, .int .i64 s.groups, .int .i64 s.locks, .int .i64 s.cells], .slice la l.length lc] W fun e w' => ∃ hc, e = .returned (.tuple #[.agg hc, .int .i64 va, .int .i64 ve]) ∧ (ve = 0 → hc = #[.slice pa s.progs.length pc, .slice ra s.rooms.length rc, .int .i64 s.groups, .int .i64 s.locks, .int .i64 s.cells, .slice la l.length lc, .int .i64 (Tr.rnC l : Int)]) ∧ (ve ≠ 0 → hc = #[.slice none 0 0, .slice none 0 0, .int .i64 0, .int .i64 0, .int .i64 0, .slice none 0 0, .int .i64 0]) ∧ Below W.heap.size W w') := fun W hW => (pread s pa pc ra rc la lc l W (hs.below hW) (hl.below hW)).mono (fun e w' h => by unfold ReaQ at h; rw [hV] at h; exact h)
 have HVo : Hid (ve = 0 → vn = (Tr.rnC l : Int)) := fun h => by
  have h2 := (Tr.vR_ok (s := s) (l := l) (by rw [hV]; exact h)).2.2.2
  rw [hV] at h2
  injection h2 with _ h2
  injection h2
 have HVn : Hid (ve ≠ 0 → vn = 0) := fun h => by
  have h2 := Tr.vR_ne (s := s) (l := l) (by rw [hV]; exact h)
  rw [hV] at h2
  exact h2
 rw [hV]
 clear hs hl hV
 dsimp only
 have hA : Below w.heap.size w (w.alloc (.cells #[.slice pa s.progs.length pc, .slice ra s.rooms.length rc, .int .i64 s.groups, .int .i64 s.locks, .int .i64 s.cells] 25)) := (Below.refl _ _).alloc (Nat.le_refl _) _
 have N1 : Hid ((w.alloc (.cells #[.slice pa s.progs.length pc, .slice ra s.rooms.length rc, .int .i64 s.groups, .int .i64 s.locks, .int .i64 s.cells] 25)).heap[w.heap.size]? = some (.cells #[.slice pa s.progs.length pc, .slice ra s.rooms.length rc, .int .i64 s.groups, .int .i64 s.locks, .int .i64 s.cells] 25 (0, 0))) := heap_alloc_new w _
 have NB := TW.hide hA
 clear hA
 go_enter Try.func7, Try.ntmps7
 refine wp_seq_k fun K hK => ?_
 have HK := TW.hide hK
 clear hK
 go_wp2
 refine HK.out _ _ ?_
 clear HK K
 generalize w.alloc _ = X at *
 obtain ⟨s0, s1, s2, s3, s4⟩ := cellsY5 N1.out
 go_wp2_with fail
 refine (HRd.out X NB.out).mono ?_
 rintro e1 W1 ⟨hc, rfl, h1, h2, hb⟩
 have NB1 : Hid (Below w.heap.size w W1) := NB.out.trans (hb.mono NB.out.size)
 clear hb NB N1 s0 s1 s2 s3 s4 HRd
 by_cases he : ve = 0
 ·obtain rfl := h1 he
  obtain rfl := HVo.out he
  have NB2 : Hid (Below w.heap.size w ((W1.alloc (.cells #[.slice none 0 0, .slice none 0 0, .int .i64 0, .int .i64 0, .int .i64 0, .slice none 0 0, .int .i64 0] 53)).setRow W1.heap.size #[.slice pa s.progs.length pc, .slice ra s.rooms.length rc, .int .i64 s.groups, .int .i64 s.locks, .int .i64 s.cells, .slice la l.length lc, .int .i64 (Tr.rnC l : Int)])) := below_setRow (NB1.out.alloc NB1.out.size _) NB1.out.size
  have N2 : Hid (((W1.alloc (.cells #[.slice none 0 0, .slice none 0 0, .int .i64 0, .int .i64 0, .int .i64 0, .slice none 0 0, .int .i64 0] 53)).setRow W1.heap.size #[.slice pa s.progs.length pc, .slice ra s.rooms.length rc, .int .i64 s.groups, .int .i64 s.locks, .int .i64 s.cells, .slice la l.length lc, .int .i64 (Tr.rnC l : Int)]).heap[W1.heap.size]? = some (.cells #[.slice pa s.progs.length pc, .slice ra s.rooms.length rc, .int .i64 s.groups, .int .i64 s.locks, .int .i64 s.cells, .slice la l.length lc, .int .i64 (Tr.rnC l : Int)] 53 (0, 0))) := setRow_heap _ _ _ _ _ _ (heap_alloc_new W1 _)
  clear he h1 h2 HVo HVn
  go_wp2_with (first | (refine wpList_store_row (by rfl) 53 _ _ (by rfl) W1.heap.size #[.slice pa s.progs.length pc, .slice ra s.rooms.length rc, .int .i64 s.groups, .int .i64 s.locks, .int .i64 s.cells, .slice la l.length lc, .int .i64 (Tr.rnC l : Int)] (by rfl) (by rfl) 53 _ (heap_alloc_new W1 _) (by kernel_rfl) (by rfl) (by simp [Value.oneCell']) ?_; generalize World.setRow _ _ _ = X2 at *; generalize W1.heap.size = g2 at *; have q6 : X2.cell? ⟨g2, 6, none⟩ = some (.int .i64 (Tr.rnC l : Int)) := blk_cell N2.out rfl) | fail)
  go_ret2
  exact ⟨rfl, NB2.out⟩
 ·obtain rfl := h2 he
  obtain rfl := HVn.out he
  have NB2 : Hid (Below w.heap.size w ((W1.alloc (.cells #[.slice none 0 0, .slice none 0 0, .int .i64 0, .int .i64 0, .int .i64 0, .slice none 0 0, .int .i64 0] 53)).setRow W1.heap.size #[.slice none 0 0, .slice none 0 0, .int .i64 0, .int .i64 0, .int .i64 0, .slice none 0 0, .int .i64 0])) := below_setRow (NB1.out.alloc NB1.out.size _) NB1.out.size
  have N2 : Hid (((W1.alloc (.cells #[.slice none 0 0, .slice none 0 0, .int .i64 0, .int .i64 0, .int .i64 0, .slice none 0 0, .int .i64 0] 53)).setRow W1.heap.size #[.slice none 0 0, .slice none 0 0, .int .i64 0, .int .i64 0, .int .i64 0, .slice none 0 0, .int .i64 0]).heap[W1.heap.size]? = some (.cells #[.slice none 0 0, .slice none 0 0, .int .i64 0, .int .i64 0, .int .i64 0, .slice none 0 0, .int .i64 0] 53 (0, 0))) := setRow_heap _ _ _ _ _ _ (heap_alloc_new W1 _)
  clear he h1 h2 HVo HVn
  go_wp2_with (first | (refine wpList_store_row (by rfl) 53 _ _ (by rfl) W1.heap.size #[.slice none 0 0, .slice none 0 0, .int .i64 0, .int .i64 0, .int .i64 0, .slice none 0 0, .int .i64 0] (by rfl) (by rfl) 53 _ (heap_alloc_new W1 _) (by kernel_rfl) (by rfl) (by simp [Value.oneCell']) ?_; generalize World.setRow _ _ _ = X2 at *; generalize W1.heap.size = g2 at *; have q6 : X2.cell? ⟨g2, 6, none⟩ = some (.int .i64 0) := blk_cell N2.out rfl) | fail)
  go_ret2
  exact ⟨rfl, NB2.out⟩
end LW
end Go.Proofs.Ythgmmggpclmagaa
