/-
  What the call Same (the document's) gives, over what Normal and Alike give.
-/
import Derived.Test.YtpcahieaakjaaaaNormal
import Derived.Test.YtpcahieaakjaaaaAlikeP
namespace Go.Proofs.Ytpcahieaakjaaaa
open Go.RowKit
set_option linter.unusedVariables false
namespace LW
open Words
set_option maxRecDepth 20000 in
set_option maxHeartbeats 4000000 in
theorem rsameOk (kd d k f dp lf off xof nd inn d' k' f' dp' lf' off' xof' nd' inn' : Int) (S T S' T' : Value) (s t s' t' : List Int) (y : Bool) (w : World) (hS : ∃ a n c, S = .slice a n c) (hT : ∃ a n c, T = .slice a n c) (hS' : ∃ a n c, S' = .slice a n c) (hT' : ∃ a n c, T' = .slice a n c)
    (H1 : Hid (∀ W, Below w.heap.size w W → Calls Try.prog 13 #[.int .i64 kd, .agg (pc d k f dp lf off xof nd inn S T)] W fun e w' => ∃ x z, e = .returned (.tuple #[.agg (pc d k f dp lf off xof nd inn x z), .int .i64 0]) ∧ w'.ownsRow W.heap.size 5 1 x s.length (vs s) ∧ w'.ownsRow W.heap.size 5 1 z t.length (vs t) ∧ Below W.heap.size W w'))
    (H2 : Hid (∀ W, Below w.heap.size w W → Calls Try.prog 13 #[.int .i64 kd, .agg (pc d' k' f' dp' lf' off' xof' nd' inn' S' T')] W fun e w' => ∃ x z, e = .returned (.tuple #[.agg (pc d' k' f' dp' lf' off' xof' nd' inn' x z), .int .i64 0]) ∧ w'.ownsRow W.heap.size 5 1 x s'.length (vs s') ∧ w'.ownsRow W.heap.size 5 1 z t'.length (vs t') ∧ Below W.heap.size W w'))
    (H3 : Hid (∀ (sa ta sa' ta' : Option Addr) (sc tc sc' tc' : Nat) (W : World), Row W sa s → Row W ta t → Row W sa' s' → Row W ta' t' → Calls Try.prog 37 #[.agg (pc d k f dp lf off xof nd inn (.slice sa s.length sc) (.slice ta t.length tc)), .agg (pc d' k' f' dp' lf' off' xof' nd' inn' (.slice sa' s'.length sc') (.slice ta' t'.length tc'))] W fun e w' => e = .returned (.bool y) ∧ Below W.heap.size W w')) :
    Calls Try.prog 16 #[.int .i64 kd, .agg (pc d k f dp lf off xof nd inn S T), .agg (pc d' k' f' dp' lf' off' xof' nd' inn' S' T')] w fun e w' => e = .returned (.tuple #[.bool y, .int .i64 0]) ∧ Below w.heap.size w w' := by
  obtain ⟨pa, pn, pcap, rfl⟩ := hS
  obtain ⟨ta0, tn0, tc0, rfl⟩ := hT
  obtain ⟨pa', pn', pcap', rfl⟩ := hS'
  obtain ⟨ta0', tn0', tc0', rfl⟩ := hT'
  have o1 := TW.hide (fun (W : World) (B : Nat) (x : Value) (h : W.ownsRow B 5 1 x s.length (vs s)) => row_of_own h)
  have o2 := TW.hide (fun (W : World) (B : Nat) (x : Value) (h : W.ownsRow B 5 1 x t.length (vs t)) => row_of_own h)
  have o3 := TW.hide (fun (W : World) (B : Nat) (x : Value) (h : W.ownsRow B 5 1 x s'.length (vs s')) => row_of_own h)
  have o4 := TW.hide (fun (W : World) (B : Nat) (x : Value) (h : W.ownsRow B 5 1 x t'.length (vs t')) => row_of_own h)
  generalize s.length = l1 at *
  generalize t.length = l2 at *
  generalize s'.length = l3 at *
  generalize t'.length = l4 at *
  unfold pc at *
  go_enter Try.func16, Try.ntmps16
  go_wp2_with fail
  have hb0 := ((Below.refl w.heap.size w).alloc (Nat.le_refl _) (.cells #[.int .i64 d, .int .i64 k, .int .i64 f, .int .i64 dp, .int .u32 lf, .int .u64 off, .int .u32 xof, .int .i64 nd, .int .i64 inn, .slice pa pn pcap, .slice ta0 tn0 tc0] 26)).alloc (by simp) (.cells #[.int .i64 d', .int .i64 k', .int .i64 f', .int .i64 dp', .int .u32 lf', .int .u64 off', .int .u32 xof', .int .i64 nd', .int .i64 inn', .slice pa' pn' pcap', .slice ta0' tn0' tc0'] 26)
  have m0 := heap_alloc_new (w.alloc (.cells #[.int .i64 d, .int .i64 k, .int .i64 f, .int .i64 dp, .int .u32 lf, .int .u64 off, .int .u32 xof, .int .i64 nd, .int .i64 inn, .slice pa pn pcap, .slice ta0 tn0 tc0] 26)) (.cells #[.int .i64 d', .int .i64 k', .int .i64 f', .int .i64 dp', .int .u32 lf', .int .u64 off', .int .u32 xof', .int .i64 nd', .int .i64 inn', .slice pa' pn' pcap', .slice ta0' tn0' tc0'] 26)
  rw [show (w.alloc (.cells #[.int .i64 d, .int .i64 k, .int .i64 f, .int .i64 dp, .int .u32 lf, .int .u64 off, .int .u32 xof, .int .i64 nd, .int .i64 inn, .slice pa pn pcap, .slice ta0 tn0 tc0] 26)).heap.size = w.heap.size + 1 by simp] at m0
  refine (H1.out _ hb0).mono ?_
  rintro e w1 ⟨x, z, rfl, ox, oz, hb1⟩
  obtain ⟨xa, xc, rfl, rx, _⟩ := o1.out _ _ _ ox
  obtain ⟨za, zc, rfl, rz, _⟩ := o2.out _ _ _ oz
  have n0 := blk_keep m0 hb1
  have g0 := blk_cell n0 (i := 0) (v := .int .i64 d') rfl
  have g1 := blk_cell n0 (i := 1) (v := .int .i64 k') rfl
  have g2 := blk_cell n0 (i := 2) (v := .int .i64 f') rfl
  have g3 := blk_cell n0 (i := 3) (v := .int .i64 dp') rfl
  have g4 := blk_cell n0 (i := 4) (v := .int .u32 lf') rfl
  have g5 := blk_cell n0 (i := 5) (v := .int .u64 off') rfl
  have g6 := blk_cell n0 (i := 6) (v := .int .u32 xof') rfl
  have g7 := blk_cell n0 (i := 7) (v := .int .i64 nd') rfl
  have g8 := blk_cell n0 (i := 8) (v := .int .i64 inn') rfl
  have g9 := blk_cell n0 (i := 9) (v := .slice pa' pn' pcap') rfl
  have g10 := blk_cell n0 (i := 10) (v := .slice ta0' tn0' tc0') rfl
  have B1 : Hid (Below w.heap.size w w1) := hb0.trans (hb1.mono (by simp; omega))
  have hs1 : w.heap.size + 1 < w1.heap.size := by have := hb1.size; simp at this; omega
  have RX := TW.hide rx
  have RZ := TW.hide rz
  clear ox oz hb1 n0 m0 rx rz hb0
  go_wp2_with fail
  have hb1' := B1.out.alloc B1.out.size (.cells #[.int .i64 d, .int .i64 k, .int .i64 f, .int .i64 dp, .int .u32 lf, .int .u64 off, .int .u32 xof, .int .i64 nd, .int .i64 inn, .slice xa l1 xc, .slice za l2 zc] 26)
  refine (H2.out _ hb1').mono ?_
  rintro e w2 ⟨x', z', rfl, ox, oz, hb2⟩
  obtain ⟨xa', xc', rfl, rx', _⟩ := o3.out _ _ _ ox
  obtain ⟨za', zc', rfl, rz', _⟩ := o4.out _ _ _ oz
  have n1 := blk_keep (heap_alloc_new w1 _) hb2
  have j0 := blk_cell n1 (i := 0) (v := .int .i64 d) rfl
  have j1 := blk_cell n1 (i := 1) (v := .int .i64 k) rfl
  have j2 := blk_cell n1 (i := 2) (v := .int .i64 f) rfl
  have j3 := blk_cell n1 (i := 3) (v := .int .i64 dp) rfl
  have j4 := blk_cell n1 (i := 4) (v := .int .u32 lf) rfl
  have j5 := blk_cell n1 (i := 5) (v := .int .u64 off) rfl
  have j6 := blk_cell n1 (i := 6) (v := .int .u32 xof) rfl
  have j7 := blk_cell n1 (i := 7) (v := .int .i64 nd) rfl
  have j8 := blk_cell n1 (i := 8) (v := .int .i64 inn) rfl
  have j9 := blk_cell n1 (i := 9) (v := .slice xa l1 xc) rfl
  have j10 := blk_cell n1 (i := 10) (v := .slice za l2 zc) rfl
  have hbb : Below w1.heap.size w1 w2 := ((Below.refl _ _).alloc (Nat.le_refl _) _).trans (hb2.mono (by simp))
  have RX2 := TW.hide (RX.out.below hbb)
  have RZ2 := TW.hide (RZ.out.below hbb)
  have RX' := TW.hide rx'
  have RZ' := TW.hide rz'
  have B2 : Hid (Below w.heap.size w w2) := B1.out.trans (hbb.mono B1.out.size)
  have hs2 : w1.heap.size < w2.heap.size := by have := hb2.size; simp at this; omega
  clear ox oz hb2 n1 rx' rz' hbb hb1' RX RZ B1 g0 g1 g2 g3 g4 g5 g6 g7 g8 g9 g10
  go_wp2_with fail
  have hb3 := B2.out.alloc B2.out.size (.cells #[.int .i64 d', .int .i64 k', .int .i64 f', .int .i64 dp', .int .u32 lf', .int .u64 off', .int .u32 xof', .int .i64 nd', .int .i64 inn', .slice xa' l3 xc', .slice za' l4 zc'] 26)
  have hb4 := (Below.refl w2.heap.size w2).alloc (Nat.le_refl _) (.cells #[.int .i64 d', .int .i64 k', .int .i64 f', .int .i64 dp', .int .u32 lf', .int .u64 off', .int .u32 xof', .int .i64 nd', .int .i64 inn', .slice xa' l3 xc', .slice za' l4 zc'] 26)
  refine (H3.out _ _ _ _ _ _ _ _ _ (RX2.out.below hb4) (RZ2.out.below hb4) (RX'.out.below hb4) (RZ'.out.below hb4)).mono ?_
  rintro e w3 ⟨rfl, hb5⟩
  have B3 : Hid (Below w.heap.size w w3) := hb3.trans (hb5.mono (by have := B2.out.size; simp; omega))
  clear hb3 hb4 hb5
  go_wp2_with fail
  go_ret2
  exact ⟨rfl, B3.out⟩
set_option maxRecDepth 20000 in
set_option maxHeartbeats 4000000 in
theorem rsameE1 (kd d k f dp lf off xof nd inn d' k' f' dp' lf' off' xof' nd' inn' : Int) (S T S' T' : Value) (E : Int) (hE : ¬ E = 0) (w : World) (hS : ∃ a n c, S = .slice a n c) (hT : ∃ a n c, T = .slice a n c) (hS' : ∃ a n c, S' = .slice a n c) (hT' : ∃ a n c, T' = .slice a n c)
    (H1 : Hid (∀ W, Calls Try.prog 13 #[.int .i64 kd, .agg (pc d k f dp lf off xof nd inn S T)] W fun e w' => e = .returned (.tuple #[.agg (pc 0 0 0 0 0 0 0 0 0 (.slice none 0 0) (.slice none 0 0)), .int .i64 E]) ∧ Below W.heap.size W w')) :
    Calls Try.prog 16 #[.int .i64 kd, .agg (pc d k f dp lf off xof nd inn S T), .agg (pc d' k' f' dp' lf' off' xof' nd' inn' S' T')] w fun e w' => e = .returned (.tuple #[.bool false, .int .i64 E]) ∧ Below w.heap.size w w' := by
  obtain ⟨pa, pn, pcap, rfl⟩ := hS
  obtain ⟨ta0, tn0, tc0, rfl⟩ := hT
  obtain ⟨pa', pn', pcap', rfl⟩ := hS'
  obtain ⟨ta0', tn0', tc0', rfl⟩ := hT'
  have hE' : (E != 0) = true := by simp [hE]
  unfold pc at *
  go_enter Try.func16, Try.ntmps16
  go_wp2_with fail
  have hb0 := ((Below.refl w.heap.size w).alloc (Nat.le_refl _) (.cells #[.int .i64 d, .int .i64 k, .int .i64 f, .int .i64 dp, .int .u32 lf, .int .u64 off, .int .u32 xof, .int .i64 nd, .int .i64 inn, .slice pa pn pcap, .slice ta0 tn0 tc0] 26)).alloc (by simp) (.cells #[.int .i64 d', .int .i64 k', .int .i64 f', .int .i64 dp', .int .u32 lf', .int .u64 off', .int .u32 xof', .int .i64 nd', .int .i64 inn', .slice pa' pn' pcap', .slice ta0' tn0' tc0'] 26)
  refine (H1.out _).mono ?_
  rintro e w1 ⟨rfl, hb1⟩
  have B1 : Hid (Below w.heap.size w w1) := hb0.trans (hb1.mono (by simp; omega))
  clear hb1 hb0
  go_wp2_with fail
  go_ret2
  exact ⟨rfl, B1.out.alloc B1.out.size _⟩
set_option maxRecDepth 20000 in
set_option maxHeartbeats 4000000 in
theorem rsameE2 (kd d k f dp lf off xof nd inn d' k' f' dp' lf' off' xof' nd' inn' : Int) (S T S' T' : Value) (s t : List Int) (E : Int) (hE : ¬ E = 0) (w : World) (hS : ∃ a n c, S = .slice a n c) (hT : ∃ a n c, T = .slice a n c) (hS' : ∃ a n c, S' = .slice a n c) (hT' : ∃ a n c, T' = .slice a n c)
    (H1 : Hid (∀ W, Below w.heap.size w W → Calls Try.prog 13 #[.int .i64 kd, .agg (pc d k f dp lf off xof nd inn S T)] W fun e w' => ∃ x z, e = .returned (.tuple #[.agg (pc d k f dp lf off xof nd inn x z), .int .i64 0]) ∧ w'.ownsRow W.heap.size 5 1 x s.length (vs s) ∧ w'.ownsRow W.heap.size 5 1 z t.length (vs t) ∧ Below W.heap.size W w'))
    (H2 : Hid (∀ W, Calls Try.prog 13 #[.int .i64 kd, .agg (pc d' k' f' dp' lf' off' xof' nd' inn' S' T')] W fun e w' => e = .returned (.tuple #[.agg (pc 0 0 0 0 0 0 0 0 0 (.slice none 0 0) (.slice none 0 0)), .int .i64 E]) ∧ Below W.heap.size W w')) :
    Calls Try.prog 16 #[.int .i64 kd, .agg (pc d k f dp lf off xof nd inn S T), .agg (pc d' k' f' dp' lf' off' xof' nd' inn' S' T')] w fun e w' => e = .returned (.tuple #[.bool false, .int .i64 E]) ∧ Below w.heap.size w w' := by
  obtain ⟨pa, pn, pcap, rfl⟩ := hS
  obtain ⟨ta0, tn0, tc0, rfl⟩ := hT
  obtain ⟨pa', pn', pcap', rfl⟩ := hS'
  obtain ⟨ta0', tn0', tc0', rfl⟩ := hT'
  have hE' : (E != 0) = true := by simp [hE]
  generalize s.length = l1 at *
  generalize t.length = l2 at *
  unfold pc at *
  go_enter Try.func16, Try.ntmps16
  go_wp2_with fail
  have hb0 := ((Below.refl w.heap.size w).alloc (Nat.le_refl _) (.cells #[.int .i64 d, .int .i64 k, .int .i64 f, .int .i64 dp, .int .u32 lf, .int .u64 off, .int .u32 xof, .int .i64 nd, .int .i64 inn, .slice pa pn pcap, .slice ta0 tn0 tc0] 26)).alloc (by simp) (.cells #[.int .i64 d', .int .i64 k', .int .i64 f', .int .i64 dp', .int .u32 lf', .int .u64 off', .int .u32 xof', .int .i64 nd', .int .i64 inn', .slice pa' pn' pcap', .slice ta0' tn0' tc0'] 26)
  have m0 := heap_alloc_new (w.alloc (.cells #[.int .i64 d, .int .i64 k, .int .i64 f, .int .i64 dp, .int .u32 lf, .int .u64 off, .int .u32 xof, .int .i64 nd, .int .i64 inn, .slice pa pn pcap, .slice ta0 tn0 tc0] 26)) (.cells #[.int .i64 d', .int .i64 k', .int .i64 f', .int .i64 dp', .int .u32 lf', .int .u64 off', .int .u32 xof', .int .i64 nd', .int .i64 inn', .slice pa' pn' pcap', .slice ta0' tn0' tc0'] 26)
  rw [show (w.alloc (.cells #[.int .i64 d, .int .i64 k, .int .i64 f, .int .i64 dp, .int .u32 lf, .int .u64 off, .int .u32 xof, .int .i64 nd, .int .i64 inn, .slice pa pn pcap, .slice ta0 tn0 tc0] 26)).heap.size = w.heap.size + 1 by simp] at m0
  refine (H1.out _ hb0).mono ?_
  rintro e w1 ⟨x, z, rfl, ox, oz, hb1⟩
  obtain ⟨xa, xc, rfl⟩ := own_form ox
  obtain ⟨za, zc, rfl⟩ := own_form oz
  have n0 := blk_keep m0 hb1
  have g0 := blk_cell n0 (i := 0) (v := .int .i64 d') rfl
  have g1 := blk_cell n0 (i := 1) (v := .int .i64 k') rfl
  have g2 := blk_cell n0 (i := 2) (v := .int .i64 f') rfl
  have g3 := blk_cell n0 (i := 3) (v := .int .i64 dp') rfl
  have g4 := blk_cell n0 (i := 4) (v := .int .u32 lf') rfl
  have g5 := blk_cell n0 (i := 5) (v := .int .u64 off') rfl
  have g6 := blk_cell n0 (i := 6) (v := .int .u32 xof') rfl
  have g7 := blk_cell n0 (i := 7) (v := .int .i64 nd') rfl
  have g8 := blk_cell n0 (i := 8) (v := .int .i64 inn') rfl
  have g9 := blk_cell n0 (i := 9) (v := .slice pa' pn' pcap') rfl
  have g10 := blk_cell n0 (i := 10) (v := .slice ta0' tn0' tc0') rfl
  have B1 : Hid (Below w.heap.size w w1) := hb0.trans (hb1.mono (by simp; omega))
  have hs1 : w.heap.size + 1 < w1.heap.size := by have := hb1.size; simp at this; omega
  clear ox oz hb1 n0 m0 hb0
  go_wp2_with fail
  have hb1' := B1.out.alloc B1.out.size (.cells #[.int .i64 d, .int .i64 k, .int .i64 f, .int .i64 dp, .int .u32 lf, .int .u64 off, .int .u32 xof, .int .i64 nd, .int .i64 inn, .slice xa l1 xc, .slice za l2 zc] 26)
  refine (H2.out _).mono ?_
  rintro e w2 ⟨rfl, hb2⟩
  have B2 : Hid (Below w.heap.size w w2) := hb1'.trans (hb2.mono (by have := B1.out.size; simp; omega))
  clear hb2 hb1' B1 g0 g1 g2 g3 g4 g5 g6 g7 g8 g9 g10
  go_wp2_with fail
  go_ret2
  exact ⟨rfl, B2.out.alloc B2.out.size _⟩
end LW
end Go.Proofs.Ytpcahieaakjaaaa
