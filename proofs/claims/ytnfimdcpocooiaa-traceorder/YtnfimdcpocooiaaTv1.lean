/-
  Small calls of traces: what A is one of, who holds what.
-/
import Derived.Test.YtnfimdcpocooiaaTr2
import Derived.Test.YtnfimdcpocooiaaHnd
import Derived.Test.YtnfimdcpocooiaaSw
import Derived.Maps.OwnSet
namespace Go.Proofs.Ytnfimdcpocooiaa
open Go.RowKit
set_option linter.unusedVariables false
set_option linter.unusedSimpArgs false
namespace LW
open Mc
/-- How many there are of what A is one of, and whether there is any. -/
def thM (r n : Nat) (gr lk ce op : Int) : Int × Bool := if op = 5 ∨ op = 6 ∨ op = 7 then ((r : Int), true) else if op = 8 ∨ op = 9 then (lk, true) else if op = 10 ∨ op = 11 then (gr, true) else if op = 12 ∨ op = 13 then (ce, true) else if op = 14 then ((n : Int), true) else (0, false)
theorem thM_mn (s : Syst) (op : Int) : Tr.mnC s op = if (thM s.rooms.length s.progs.length s.groups s.locks s.cells op).2 = true then some (thM s.rooms.length s.progs.length s.groups s.locks s.cells op).1 else none := by
  unfold Tr.mnC thM
  split
  · rfl
  split
  · rfl
  split
  · rfl
  split
  · rfl
  split
  · rfl
  rfl
set_option maxRecDepth 100000 in
set_option maxHeartbeats 4000000 in
theorem pthings (pa : Option Addr) (n pc : Nat) (ra : Option Addr) (r rc : Nat) (gr lk ce op : Int) (w : World) :
    Calls Try.prog 54 #[.agg #[.slice pa n pc, .slice ra r rc, .int .i64 gr, .int .i64 lk, .int .i64 ce], .int .i64 op] w fun e w' => e = .returned (.tuple #[.int .i64 (thM r n gr lk ce op).1, .bool (thM r n gr lk ce op).2]) ∧ Below w.heap.size w w' := by
  have hA : Below w.heap.size w (w.alloc (.cells #[.slice pa n pc, .slice ra r rc, .int .i64 gr, .int .i64 lk, .int .i64 ce] 25)) := (Below.refl _ _).alloc (Nat.le_refl _) _
  have N1 : Hid ((w.alloc (.cells #[.slice pa n pc, .slice ra r rc, .int .i64 gr, .int .i64 lk, .int .i64 ce] 25)).heap[w.heap.size]? = some (.cells #[.slice pa n pc, .slice ra r rc, .int .i64 gr, .int .i64 lk, .int .i64 ce] 25 (0, 0))) := heap_alloc_new w _
  have NB := TW.hide hA
  clear hA
  go_enter Try.func54, Try.ntmps54
  refine wp_seq_k fun K hK => ?_
  have HK := TW.hide hK
  clear hK
  go_wp2
  refine HK.out _ _ ?_
  clear HK K
  generalize w.alloc _ = X at *
  obtain ⟨y0, y1, y2, y3, y4⟩ := cellsY5 N1.out
  by_cases h5 : op = 5
  · have HE : Hid (thM r n gr lk ce op = ((r : Int), true)) := by show _ = _; rw [h5]; rfl
    have k5 : (op == 5) = true := by simp [h5]
    rw [HE.out]
    clear HE h5
    go_wp2
    go_ret2
    exact ⟨rfl, NB.out⟩
  have k5 : (op == 5) = false := by simp [h5]
  by_cases h6 : op = 6
  · have HE : Hid (thM r n gr lk ce op = ((r : Int), true)) := by show _ = _; rw [h6]; rfl
    have k6 : (op == 6) = true := by simp [h6]
    rw [HE.out]
    clear HE h5 h6
    go_wp2
    go_ret2
    exact ⟨rfl, NB.out⟩
  have k6 : (op == 6) = false := by simp [h6]
  by_cases h7 : op = 7
  · have HE : Hid (thM r n gr lk ce op = ((r : Int), true)) := by show _ = _; rw [h7]; rfl
    have k7 : (op == 7) = true := by simp [h7]
    rw [HE.out]
    clear HE h5 h6 h7
    go_wp2
    go_ret2
    exact ⟨rfl, NB.out⟩
  have k7 : (op == 7) = false := by simp [h7]
  by_cases h8 : op = 8
  · have HE : Hid (thM r n gr lk ce op = (lk, true)) := by show _ = _; rw [h8]; rfl
    have k8 : (op == 8) = true := by simp [h8]
    rw [HE.out]
    clear HE h5 h6 h7 h8
    go_wp2
    go_ret2
    exact ⟨rfl, NB.out⟩
  have k8 : (op == 8) = false := by simp [h8]
  by_cases h9 : op = 9
  · have HE : Hid (thM r n gr lk ce op = (lk, true)) := by show _ = _; rw [h9]; rfl
    have k9 : (op == 9) = true := by simp [h9]
    rw [HE.out]
    clear HE h5 h6 h7 h8 h9
    go_wp2
    go_ret2
    exact ⟨rfl, NB.out⟩
  have k9 : (op == 9) = false := by simp [h9]
  by_cases h10 : op = 10
  · have HE : Hid (thM r n gr lk ce op = (gr, true)) := by show _ = _; rw [h10]; rfl
    have k10 : (op == 10) = true := by simp [h10]
    rw [HE.out]
    clear HE h5 h6 h7 h8 h9 h10
    go_wp2
    go_ret2
    exact ⟨rfl, NB.out⟩
  have k10 : (op == 10) = false := by simp [h10]
  by_cases h11 : op = 11
  · have HE : Hid (thM r n gr lk ce op = (gr, true)) := by show _ = _; rw [h11]; rfl
    have k11 : (op == 11) = true := by simp [h11]
    rw [HE.out]
    clear HE h5 h6 h7 h8 h9 h10 h11
    go_wp2
    go_ret2
    exact ⟨rfl, NB.out⟩
  have k11 : (op == 11) = false := by simp [h11]
  by_cases h12 : op = 12
  · have HE : Hid (thM r n gr lk ce op = (ce, true)) := by show _ = _; rw [h12]; rfl
    have k12 : (op == 12) = true := by simp [h12]
    rw [HE.out]
    clear HE h5 h6 h7 h8 h9 h10 h11 h12
    go_wp2
    go_ret2
    exact ⟨rfl, NB.out⟩
  have k12 : (op == 12) = false := by simp [h12]
  by_cases h13 : op = 13
  · have HE : Hid (thM r n gr lk ce op = (ce, true)) := by show _ = _; rw [h13]; rfl
    have k13 : (op == 13) = true := by simp [h13]
    rw [HE.out]
    clear HE h5 h6 h7 h8 h9 h10 h11 h12 h13
    go_wp2
    go_ret2
    exact ⟨rfl, NB.out⟩
  have k13 : (op == 13) = false := by simp [h13]
  by_cases h14 : op = 14
  · have HE : Hid (thM r n gr lk ce op = ((n : Int), true)) := by show _ = _; rw [h14]; rfl
    have k14 : (op == 14) = true := by simp [h14]
    rw [HE.out]
    clear HE h5 h6 h7 h8 h9 h10 h11 h12 h13 h14
    go_wp2
    go_ret2
    exact ⟨rfl, NB.out⟩
  have k14 : (op == 14) = false := by simp [h14]
  have HE : Hid (thM r n gr lk ce op = (0, false)) := by show _ = _; unfold thM; rw [if_neg (by omega), if_neg (by omega), if_neg (by omega), if_neg (by omega), if_neg (by omega)]
  rw [HE.out]
  clear HE h5 h6 h7 h8 h9 h10 h11 h12 h13 h14
  go_wp2
  go_ret2
  exact ⟨rfl, NB.out⟩
set_option maxRecDepth 100000 in
set_option maxHeartbeats 4000000 in
theorem rinside (a n : Int) (w : World) : Calls Try.prog 28 #[.int .i64 a, .int .i64 n] w fun e w' => e = .returned (.bool (decide (0 ≤ a ∧ a < n))) ∧ w = w' := by
  go_enter Try.func28, Try.ntmps28
  by_cases h1 : 0 ≤ a
  · by_cases h2 : a < n
    · go_wp2
      go_ret
      exact ⟨by simp [h1, h2], rfl⟩
    · go_wp2
      go_ret
      exact ⟨by simp [h1, h2], rfl⟩
  · go_wp2
    go_ret
    exact ⟨by simp; omega, rfl⟩
/-- May A and Op be? -/
def meB (r n : Nat) (gr lk ce op a : Int) : Bool := if (thM r n gr lk ce op).2 then decide (0 ≤ a ∧ a < (thM r n gr lk ce op).1) else decide (1 ≤ op ∧ op ≤ 16)
set_option maxRecDepth 100000 in
set_option maxHeartbeats 4000000 in
theorem rmeant (pa : Option Addr) (n pc : Nat) (ra : Option Addr) (r rc : Nat) (gr lk ce who op a va : Int) (sh : Bool) (w : World) :
    Calls Try.prog 63 #[.agg #[.slice pa n pc, .slice ra r rc, .int .i64 gr, .int .i64 lk, .int .i64 ce], .agg #[.int .i64 who, .int .i64 op, .int .i64 a, .int .i64 va, .bool sh]] w fun e w' => e = .returned (.bool (meB r n gr lk ce op a)) ∧ Below w.heap.size w w' := by
  have HN1 : Hid (((w.alloc (.cells #[.slice pa n pc, .slice ra r rc, .int .i64 gr, .int .i64 lk, .int .i64 ce] 25)).alloc (.cells #[.int .i64 who, .int .i64 op, .int .i64 a, .int .i64 va, .bool sh] 57)).heap[w.heap.size]? = some (.cells #[.slice pa n pc, .slice ra r rc, .int .i64 gr, .int .i64 lk, .int .i64 ce] 25 (0, 0))) := blk_alloc (heap_alloc_new w _)
  have HN2 : Hid (((w.alloc (.cells #[.slice pa n pc, .slice ra r rc, .int .i64 gr, .int .i64 lk, .int .i64 ce] 25)).alloc (.cells #[.int .i64 who, .int .i64 op, .int .i64 a, .int .i64 va, .bool sh] 57)).heap[w.heap.size + 1]? = some (.cells #[.int .i64 who, .int .i64 op, .int .i64 a, .int .i64 va, .bool sh] 57 (0, 0))) := by
    have h1 := heap_alloc_new (w.alloc (.cells #[.slice pa n pc, .slice ra r rc, .int .i64 gr, .int .i64 lk, .int .i64 ce] 25)) (.cells #[.int .i64 who, .int .i64 op, .int .i64 a, .int .i64 va, .bool sh] 57)
    have h2 : (w.alloc (.cells #[.slice pa n pc, .slice ra r rc, .int .i64 gr, .int .i64 lk, .int .i64 ce] 25)).heap.size = w.heap.size + 1 := by simp
    rw [h2] at h1
    exact h1
  have NB : Hid (Below w.heap.size w ((w.alloc (.cells #[.slice pa n pc, .slice ra r rc, .int .i64 gr, .int .i64 lk, .int .i64 ce] 25)).alloc (.cells #[.int .i64 who, .int .i64 op, .int .i64 a, .int .i64 va, .bool sh] 57))) := ((Below.refl _ _).alloc (Nat.le_refl _) _).alloc (by simp) _
  have HI : Hid (∀ m W, Calls Try.prog 28 #[.int .i64 a, .int .i64 m] W fun e w' => e = .returned (.bool (decide (0 ≤ a ∧ a < m))) ∧ W = w') := fun m W => rinside a m W
  have HM : Hid (meB r n gr lk ce op a = if (thM r n gr lk ce op).2 then decide (0 ≤ a ∧ a < (thM r n gr lk ce op).1) else decide (1 ≤ op ∧ op ≤ 16)) := rfl
  generalize meB r n gr lk ce op a = ME at *
  go_enter Try.func63, Try.ntmps63
  refine wp_seq_k fun K hK => ?_
  have HK := TW.hide hK
  clear hK
  go_wp2
  refine HK.out _ _ ?_
  clear HK K
  generalize World.alloc _ _ = X at *
  generalize w.heap.size + 1 = g2 at *
  obtain ⟨y0, y1, y2, y3, y4⟩ := cellsY5 HN1.out
  obtain ⟨z0, z1, z2, z3, z4⟩ := cellsY5 HN2.out
  by_cases h5 : op = 5
  · have HE : Hid (ME = decide (0 ≤ a ∧ a < (r : Int))) := by show _ = _; rw [HM.out, h5]; rfl
    have HC := TW.hide (HI.out ((r : Int)))
    generalize decide (0 ≤ a ∧ a < (r : Int)) = dd at *
    have k5 : (op == 5) = true := by simp [h5]
    clear HM HI h5
    go_wp2_with fail
    refine (HC.out _).mono ?_
    rintro e1 w1 ⟨rfl, rfl⟩
    go_wp2
    go_ret
    exact ⟨by rw [HE.out]; rfl, NB.out⟩
  have k5 : (op == 5) = false := by simp [h5]
  by_cases h6 : op = 6
  · have HE : Hid (ME = decide (0 ≤ a ∧ a < (r : Int))) := by show _ = _; rw [HM.out, h6]; rfl
    have HC := TW.hide (HI.out ((r : Int)))
    generalize decide (0 ≤ a ∧ a < (r : Int)) = dd at *
    have k6 : (op == 6) = true := by simp [h6]
    clear HM HI h5 h6
    go_wp2_with fail
    refine (HC.out _).mono ?_
    rintro e1 w1 ⟨rfl, rfl⟩
    go_wp2
    go_ret
    exact ⟨by rw [HE.out]; rfl, NB.out⟩
  have k6 : (op == 6) = false := by simp [h6]
  by_cases h7 : op = 7
  · have HE : Hid (ME = decide (0 ≤ a ∧ a < (r : Int))) := by show _ = _; rw [HM.out, h7]; rfl
    have HC := TW.hide (HI.out ((r : Int)))
    generalize decide (0 ≤ a ∧ a < (r : Int)) = dd at *
    have k7 : (op == 7) = true := by simp [h7]
    clear HM HI h5 h6 h7
    go_wp2_with fail
    refine (HC.out _).mono ?_
    rintro e1 w1 ⟨rfl, rfl⟩
    go_wp2
    go_ret
    exact ⟨by rw [HE.out]; rfl, NB.out⟩
  have k7 : (op == 7) = false := by simp [h7]
  by_cases h8 : op = 8
  · have HE : Hid (ME = decide (0 ≤ a ∧ a < lk)) := by show _ = _; rw [HM.out, h8]; rfl
    have HC := TW.hide (HI.out (lk))
    generalize decide (0 ≤ a ∧ a < lk) = dd at *
    have k8 : (op == 8) = true := by simp [h8]
    clear HM HI h5 h6 h7 h8
    go_wp2_with fail
    refine (HC.out _).mono ?_
    rintro e1 w1 ⟨rfl, rfl⟩
    go_wp2
    go_ret
    exact ⟨by rw [HE.out]; rfl, NB.out⟩
  have k8 : (op == 8) = false := by simp [h8]
  by_cases h9 : op = 9
  · have HE : Hid (ME = decide (0 ≤ a ∧ a < lk)) := by show _ = _; rw [HM.out, h9]; rfl
    have HC := TW.hide (HI.out (lk))
    generalize decide (0 ≤ a ∧ a < lk) = dd at *
    have k9 : (op == 9) = true := by simp [h9]
    clear HM HI h5 h6 h7 h8 h9
    go_wp2_with fail
    refine (HC.out _).mono ?_
    rintro e1 w1 ⟨rfl, rfl⟩
    go_wp2
    go_ret
    exact ⟨by rw [HE.out]; rfl, NB.out⟩
  have k9 : (op == 9) = false := by simp [h9]
  by_cases h10 : op = 10
  · have HE : Hid (ME = decide (0 ≤ a ∧ a < gr)) := by show _ = _; rw [HM.out, h10]; rfl
    have HC := TW.hide (HI.out (gr))
    generalize decide (0 ≤ a ∧ a < gr) = dd at *
    have k10 : (op == 10) = true := by simp [h10]
    clear HM HI h5 h6 h7 h8 h9 h10
    go_wp2_with fail
    refine (HC.out _).mono ?_
    rintro e1 w1 ⟨rfl, rfl⟩
    go_wp2
    go_ret
    exact ⟨by rw [HE.out]; rfl, NB.out⟩
  have k10 : (op == 10) = false := by simp [h10]
  by_cases h11 : op = 11
  · have HE : Hid (ME = decide (0 ≤ a ∧ a < gr)) := by show _ = _; rw [HM.out, h11]; rfl
    have HC := TW.hide (HI.out (gr))
    generalize decide (0 ≤ a ∧ a < gr) = dd at *
    have k11 : (op == 11) = true := by simp [h11]
    clear HM HI h5 h6 h7 h8 h9 h10 h11
    go_wp2_with fail
    refine (HC.out _).mono ?_
    rintro e1 w1 ⟨rfl, rfl⟩
    go_wp2
    go_ret
    exact ⟨by rw [HE.out]; rfl, NB.out⟩
  have k11 : (op == 11) = false := by simp [h11]
  by_cases h12 : op = 12
  · have HE : Hid (ME = decide (0 ≤ a ∧ a < ce)) := by show _ = _; rw [HM.out, h12]; rfl
    have HC := TW.hide (HI.out (ce))
    generalize decide (0 ≤ a ∧ a < ce) = dd at *
    have k12 : (op == 12) = true := by simp [h12]
    clear HM HI h5 h6 h7 h8 h9 h10 h11 h12
    go_wp2_with fail
    refine (HC.out _).mono ?_
    rintro e1 w1 ⟨rfl, rfl⟩
    go_wp2
    go_ret
    exact ⟨by rw [HE.out]; rfl, NB.out⟩
  have k12 : (op == 12) = false := by simp [h12]
  by_cases h13 : op = 13
  · have HE : Hid (ME = decide (0 ≤ a ∧ a < ce)) := by show _ = _; rw [HM.out, h13]; rfl
    have HC := TW.hide (HI.out (ce))
    generalize decide (0 ≤ a ∧ a < ce) = dd at *
    have k13 : (op == 13) = true := by simp [h13]
    clear HM HI h5 h6 h7 h8 h9 h10 h11 h12 h13
    go_wp2_with fail
    refine (HC.out _).mono ?_
    rintro e1 w1 ⟨rfl, rfl⟩
    go_wp2
    go_ret
    exact ⟨by rw [HE.out]; rfl, NB.out⟩
  have k13 : (op == 13) = false := by simp [h13]
  by_cases h14 : op = 14
  · have HE : Hid (ME = decide (0 ≤ a ∧ a < (n : Int))) := by show _ = _; rw [HM.out, h14]; rfl
    have HC := TW.hide (HI.out ((n : Int)))
    generalize decide (0 ≤ a ∧ a < (n : Int)) = dd at *
    have k14 : (op == 14) = true := by simp [h14]
    clear HM HI h5 h6 h7 h8 h9 h10 h11 h12 h13 h14
    go_wp2_with fail
    refine (HC.out _).mono ?_
    rintro e1 w1 ⟨rfl, rfl⟩
    go_wp2
    go_ret
    exact ⟨by rw [HE.out]; rfl, NB.out⟩
  have k14 : (op == 14) = false := by simp [h14]
  have HE : Hid (ME = decide (1 ≤ op ∧ op ≤ 16)) := by
    have ht : thM r n gr lk ce op = (0, false) := by unfold thM; rw [if_neg (by omega), if_neg (by omega), if_neg (by omega), if_neg (by omega), if_neg (by omega)]
    show _ = _
    rw [HM.out, ht]
    rfl
  clear HM HI h5 h6 h7 h8 h9 h10 h11 h12 h13 h14
  by_cases h1 : 1 ≤ op
  · by_cases h2 : op ≤ 16
    · go_wp2
      go_ret
      exact ⟨by rw [HE.out]; simp [h1, h2], NB.out⟩
    · go_wp2
      go_ret
      exact ⟨by rw [HE.out]; simp [h1, h2], NB.out⟩
  · go_wp2
    go_ret
    exact ⟨by rw [HE.out]; simp; omega, NB.out⟩
end LW
end Go.Proofs.Ytnfimdcpocooiaa
