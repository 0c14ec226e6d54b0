/-
  The law on Valid and Runners.
-/
import Derived.Test.YtlnlkhbegdifkaaTvB
namespace Go.Proofs.Ytlnlkhbegdifkaa
open Go.RowKit
set_option linter.unusedVariables false
set_option linter.unusedSimpArgs false
namespace LW
open Mc
set_option maxRecDepth 100000 in
set_option maxHeartbeats 4000000 in
theorem validsW (s : Syst) (pa : Option Addr) (pc : Nat) (ra : Option Addr) (rc : Nat) (la : Option Addr) (lc : Nat) (l : List Ev) (w : World) (hs : SyI w s pa ra) (hl : EvI w la lc l) (hz : l.length ≤ 3518437208780) :
    Calls Try.prog 3 #[.agg (syC s pa pc ra rc), .slice la l.length lc] w fun e w' => e = .returned (.bool true) ∧ Below w.heap.size w w' := by
  unfold syC
  have HCo : Hid (∀ W, Below w.heap.size w W → Calls Try.prog 5 #[.slice la l.length lc] W fun e w' => ∃ a c, e = .returned (.slice a l.length c) ∧ EvI w' a c l ∧ Below W.heap.size W w') := fun W hW => lcopied la lc l W (hl.below hW) hz
  have HV1 : Hid (∀ a c W, Below w.heap.size w W → EvI W a c l → Calls Try.prog 6 #[.agg #[.slice pa s.progs.length pc, .slice ra s.rooms.length rc, .int .i64 s.groups, .int .i64 s.locks, .int .i64 s.cells], .slice a l.length c] W fun e w' => e = .returned (.tuple #[.int .i64 (Tr.vR s l).1, .int .i64 (Tr.vR s l).2.2]) ∧ Below W.heap.size W w') := fun a c W hW he => ptvalid s pa pc ra rc a c l W (hs.below hW) he
  have HV2 : Hid (∀ W, Below w.heap.size w W → Calls Try.prog 7 #[.agg #[.slice pa s.progs.length pc, .slice ra s.rooms.length rc, .int .i64 s.groups, .int .i64 s.locks, .int .i64 s.cells], .slice la l.length lc] W fun e w' => e = .returned (.tuple #[.int .i64 (Tr.vR s l).1, .int .i64 (Tr.vR s l).2.1, .int .i64 (Tr.vR s l).2.2]) ∧ Below W.heap.size W w') := fun W hW => rtvalid s pa pc ra rc la lc l W (hs.below hW) (hl.below hW)
  have HV3 : Hid (∀ a c W, Below w.heap.size w W → EvI W a c l → Calls Try.prog 8 #[.agg #[.slice pa s.progs.length pc, .slice ra s.rooms.length rc, .int .i64 s.groups, .int .i64 s.locks, .int .i64 s.cells], .slice a l.length c] W fun e w' => e = .returned (.tuple #[.int .i64 (Tr.vR s l).2.1, .int .i64 (Tr.vR s l).2.2]) ∧ Below W.heap.size W w') := fun a c W hW he => prunners s pa pc ra rc a c l W (hs.below hW) he
  have HKe : Hid (∀ a c W, Below w.heap.size w W → EvI W a c l → Calls Try.prog 9 #[.slice a l.length c, .slice la l.length lc] W fun e w' => e = .returned (.bool true) ∧ Below W.heap.size W w') := fun a c W hW he => lkept a la c lc l W he (hl.below hW)
  generalize (Tr.vR s l).1 = va at *
  generalize (Tr.vR s l).2.1 = vn at *
  generalize (Tr.vR s l).2.2 = ve at *
  clear hs hl hz
  have hA : Below w.heap.size w (w.alloc (.cells #[.slice pa s.progs.length pc, .slice ra s.rooms.length rc, .int .i64 s.groups, .int .i64 s.locks, .int .i64 s.cells] 25)) := (Below.refl _ _).alloc (Nat.le_refl _) _
  have N1 : Hid ((w.alloc (.cells #[.slice pa s.progs.length pc, .slice ra s.rooms.length rc, .int .i64 s.groups, .int .i64 s.locks, .int .i64 s.cells] 25)).heap[w.heap.size]? = some (.cells #[.slice pa s.progs.length pc, .slice ra s.rooms.length rc, .int .i64 s.groups, .int .i64 s.locks, .int .i64 s.cells] 25 (0, 0))) := heap_alloc_new w _
  have NB := TW.hide hA
  clear hA
  go_enter Try.func3, Try.ntmps3
  refine wp_seq_k fun K hK => ?_
  have HK := TW.hide hK
  clear hK
  go_wp2
  refine HK.out _ _ ?_
  clear HK K
  generalize w.alloc _ = X at *
  have kx : ∀ x : Int, (x != x) = false := fun x => by simp
  have ky : ∀ x : Int, (x == x) = true := fun x => by simp
  go_wp2_with fail
  refine (HCo.out X NB.out).mono ?_
  rintro e1 W1 ⟨a, c, rfl, he, hb⟩
  have NB1 : Hid (Below w.heap.size w W1) := NB.out.trans (hb.mono NB.out.size)
  have N2 := TW.hide (blk_keep N1.out hb)
  have HE1 := TW.hide he
  clear hb NB N1 HCo he
  obtain ⟨s0, s1, s2, s3, s4⟩ := cellsY5 N2.out
  go_wp2_with fail
  refine (HV1.out a c W1 NB1.out HE1.out).mono ?_
  rintro e2 W2 ⟨rfl, hb⟩
  have NB2 : Hid (Below w.heap.size w W2) := NB1.out.trans (hb.mono NB1.out.size)
  have N3 := TW.hide (blk_keep N2.out hb)
  have HE2 := TW.hide (HE1.out.below hb)
  clear hb NB1 N2 HV1 HE1 s0 s1 s2 s3 s4
  obtain ⟨s0, s1, s2, s3, s4⟩ := cellsY5 N3.out
  go_wp2_with fail
  refine (HV2.out W2 NB2.out).mono ?_
  rintro e3 W3 ⟨rfl, hb⟩
  have NB3 : Hid (Below w.heap.size w W3) := NB2.out.trans (hb.mono NB2.out.size)
  have N4 := TW.hide (blk_keep N3.out hb)
  have HE3 := TW.hide (HE2.out.below hb)
  clear hb NB2 N3 HV2 HE2 s0 s1 s2 s3 s4
  obtain ⟨s0, s1, s2, s3, s4⟩ := cellsY5 N4.out
  go_wp2_with fail
  refine (HV3.out a c W3 NB3.out HE3.out).mono ?_
  rintro e4 W4 ⟨rfl, hb⟩
  have NB4 : Hid (Below w.heap.size w W4) := NB3.out.trans (hb.mono NB3.out.size)
  have HE4 := TW.hide (HE3.out.below hb)
  clear hb NB3 N4 HV3 HE3 s0 s1 s2 s3 s4
  go_wp2_with fail
  refine (HKe.out a c W4 NB4.out HE4.out).mono ?_
  rintro e5 W5 ⟨rfl, hb⟩
  have NB5 : Hid (Below w.heap.size w W5) := NB4.out.trans (hb.mono NB4.out.size)
  clear hb NB4 HKe HE4
  go_wp2
  go_ret
  exact ⟨rfl, NB5.out⟩
end LW
end Go.Proofs.Ytlnlkhbegdifkaa
