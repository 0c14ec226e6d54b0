/-
  What the call Alike (the document's, and the law's over it) gives at parameters that are the same, byte for byte: true.
-/
import Derived.Test.YtomdplcmbcjkfaaCheck
import Derived.Test.YtomdplcmbcjkfaaSame
namespace Go.Proofs.Ytomdplcmbcjkfaa
open Go.RowKit
set_option linter.unusedVariables false
namespace LW
open Words

set_option maxHeartbeats 8000000 in
theorem ralikeE (d k f dp lf off xof nd inn : Int) (sa ta sa' ta' : Option Addr) (sc tc sc' tc' : Nat) (s t : List Int) (w : World)
    (r1 : Row w sa s) (r2 : Row w ta t) (r3 : Row w sa' s) (r4 : Row w ta' t) (m1 : s.length ≤ maxLen) (m2 : t.length ≤ maxLen) :
    Calls Try.prog 41 #[.agg (pc d k f dp lf off xof nd inn (.slice sa s.length sc) (.slice ta t.length tc)), .agg (pc d k f dp lf off xof nd inn (.slice sa' s.length sc') (.slice ta' t.length tc'))] w fun e w' =>
      e = .returned (.bool true) ∧ Below w.heap.size w w' := by
  have c1 := fun W (h : Row W sa s) (h' : Row W sa' s) => ralike sa sa' sc sc' s s W h h' m1 m1
  have c2 := fun W (h : Row W ta t) (h' : Row W ta' t) => ralike ta ta' tc tc' t t W h h' m2 m2
  rw [show decide (s = s) = true by simp] at c1
  rw [show decide (t = t) = true by simp] at c2
  have R1 := TW.hide r1
  have R2 := TW.hide r2
  have R3 := TW.hide r3
  have R4 := TW.hide r4
  have C1 := TW.hide c1
  have C2 := TW.hide c2
  clear r1 r2 r3 r4 c1 c2 m1 m2
  generalize s.length = sl at *
  generalize t.length = tl at *
  have hb := (((Below.refl w.heap.size w).alloc (Nat.le_refl _) (.cells #[.int .i64 d, .int .i64 k, .int .i64 f, .int .i64 dp, .int .u32 lf, .int .u64 off, .int .u32 xof, .int .i64 nd, .int .i64 inn, .slice sa sl sc, .slice ta tl tc] 26)).alloc (by simp) (.cells #[.int .i64 d, .int .i64 k, .int .i64 f, .int .i64 dp, .int .u32 lf, .int .u64 off, .int .u32 xof, .int .i64 nd, .int .i64 inn, .slice sa' sl sc', .slice ta' tl tc'] 26))
  have n0 := blk_alloc (o' := .cells #[.int .i64 d, .int .i64 k, .int .i64 f, .int .i64 dp, .int .u32 lf, .int .u64 off, .int .u32 xof, .int .i64 nd, .int .i64 inn, .slice sa' sl sc', .slice ta' tl tc'] 26) (heap_alloc_new w (.cells #[.int .i64 d, .int .i64 k, .int .i64 f, .int .i64 dp, .int .u32 lf, .int .u64 off, .int .u32 xof, .int .i64 nd, .int .i64 inn, .slice sa sl sc, .slice ta tl tc] 26))
  have n1 := heap_alloc_new (w.alloc (.cells #[.int .i64 d, .int .i64 k, .int .i64 f, .int .i64 dp, .int .u32 lf, .int .u64 off, .int .u32 xof, .int .i64 nd, .int .i64 inn, .slice sa sl sc, .slice ta tl tc] 26)) (.cells #[.int .i64 d, .int .i64 k, .int .i64 f, .int .i64 dp, .int .u32 lf, .int .u64 off, .int .u32 xof, .int .i64 nd, .int .i64 inn, .slice sa' sl sc', .slice ta' tl tc'] 26)
  rw [show (w.alloc (.cells #[.int .i64 d, .int .i64 k, .int .i64 f, .int .i64 dp, .int .u32 lf, .int .u64 off, .int .u32 xof, .int .i64 nd, .int .i64 inn, .slice sa sl sc, .slice ta tl tc] 26)).heap.size = w.heap.size + 1 by simp] at n1
  unfold pc
  go_enter Try.func41, Try.ntmps41
  refine wp_seq_k fun K hK => ?_
  have HK := TW.hide hK
  clear hK
  go_wp2
  refine HK.out _ _ ?_
  clear HK K
  generalize (w.alloc (.cells #[.int .i64 d, .int .i64 k, .int .i64 f, .int .i64 dp, .int .u32 lf, .int .u64 off, .int .u32 xof, .int .i64 nd, .int .i64 inn, .slice sa sl sc, .slice ta tl tc] 26)).alloc (.cells #[.int .i64 d, .int .i64 k, .int .i64 f, .int .i64 dp, .int .u32 lf, .int .u64 off, .int .u32 xof, .int .i64 nd, .int .i64 inn, .slice sa' sl sc', .slice ta' tl tc'] 26) = W at n0 n1 hb ⊢
  have S1 := TW.hide (R1.out.below hb)
  have S2 := TW.hide (R2.out.below hb)
  have S3 := TW.hide (R3.out.below hb)
  have S4 := TW.hide (R4.out.below hb)
  have HB := TW.hide hb
  clear hb R1 R2 R3 R4
  have g0 := blk_cell n0 (i := 0) (v := .int .i64 d) rfl
  have g1 := blk_cell n0 (i := 1) (v := .int .i64 k) rfl
  have g2 := blk_cell n0 (i := 2) (v := .int .i64 f) rfl
  have g3 := blk_cell n0 (i := 3) (v := .int .i64 dp) rfl
  have g4 := blk_cell n0 (i := 4) (v := .int .u32 lf) rfl
  have g5 := blk_cell n0 (i := 5) (v := .int .u64 off) rfl
  have g6 := blk_cell n0 (i := 6) (v := .int .u32 xof) rfl
  have g7 := blk_cell n0 (i := 7) (v := .int .i64 nd) rfl
  have g8 := blk_cell n0 (i := 8) (v := .int .i64 inn) rfl
  have g9 := blk_cell n0 (i := 9) (v := .slice sa sl sc) rfl
  have g10 := blk_cell n0 (i := 10) (v := .slice ta tl tc) rfl
  have j0 := blk_cell n1 (i := 0) (v := .int .i64 d) rfl
  have j1 := blk_cell n1 (i := 1) (v := .int .i64 k) rfl
  have j2 := blk_cell n1 (i := 2) (v := .int .i64 f) rfl
  have j3 := blk_cell n1 (i := 3) (v := .int .i64 dp) rfl
  have j4 := blk_cell n1 (i := 4) (v := .int .u32 lf) rfl
  have j5 := blk_cell n1 (i := 5) (v := .int .u64 off) rfl
  have j6 := blk_cell n1 (i := 6) (v := .int .u32 xof) rfl
  have j7 := blk_cell n1 (i := 7) (v := .int .i64 nd) rfl
  have j8 := blk_cell n1 (i := 8) (v := .int .i64 inn) rfl
  have j9 := blk_cell n1 (i := 9) (v := .slice sa' sl sc') rfl
  have j10 := blk_cell n1 (i := 10) (v := .slice ta' tl tc') rfl
  clear n0 n1
  generalize w.heap.size = B0 at HB g0 g1 g2 g3 g4 g5 g6 g7 g8 g9 g10 j0 j1 j2 j3 j4 j5 j6 j7 j8 j9 j10 ⊢
  generalize Value.agg #[.int .i64 d, .int .i64 k, .int .i64 f, .int .i64 dp, .int .u32 lf, .int .u64 off, .int .u32 xof, .int .i64 nd, .int .i64 inn, .slice sa sl sc, .slice ta tl tc] = V0
  generalize Value.agg #[.int .i64 d, .int .i64 k, .int .i64 f, .int .i64 dp, .int .u32 lf, .int .u64 off, .int .u32 xof, .int .i64 nd, .int .i64 inn, .slice sa' sl sc', .slice ta' tl tc'] = V1

  go_wp2_with fail
  refine (C1.out _ S1.out S3.out).mono ?_
  rintro e w1 ⟨rfl, q, rfl⟩
  have k9 : (W.drewN q).cell? ⟨B0, 10, none⟩ = some (.slice ta tl tc) := g10
  have k10 : (W.drewN q).cell? ⟨B0 + 1, 10, none⟩ = some (.slice ta' tl tc') := j10
  clear g0 g1 g2 g3 g4 g5 g6 g7 g8 g9 j0 j1 j2 j3 j4 j5 j6 j7 j8 j9
  go_wp2_with fail
  refine (C2.out _ (S2.out.drewN q) (S4.out.drewN q)).mono ?_
  rintro e w1 ⟨rfl, q', rfl⟩
  go_wp2_with fail
  go_ret
  exact ⟨rfl, below_drewN HB.out _⟩
set_option maxHeartbeats 4000000 in
theorem alikeE (d k f dp lf off xof nd inn : Int) (sa ta sa' ta' : Option Addr) (sc tc sc' tc' : Nat) (s t : List Int) (w : World)
    (r1 : Row w sa s) (r2 : Row w ta t) (r3 : Row w sa' s) (r4 : Row w ta' t) (m1 : s.length ≤ maxLen) (m2 : t.length ≤ maxLen) :
    Calls Try.prog 16 #[.agg (pc d k f dp lf off xof nd inn (.slice sa s.length sc) (.slice ta t.length tc)), .agg (pc d k f dp lf off xof nd inn (.slice sa' s.length sc') (.slice ta' t.length tc'))] w fun e w' =>
      e = .returned (.bool true) ∧ Below w.heap.size w w' := by
  have c1 := fun W (r1 : Row W sa s) (r2 : Row W ta t) (r3 : Row W sa' s) (r4 : Row W ta' t) => ralikeE d k f dp lf off xof nd inn sa ta sa' ta' sc tc sc' tc' s t W r1 r2 r3 r4 m1 m2
  have R1 := TW.hide r1
  have R2 := TW.hide r2
  have R3 := TW.hide r3
  have R4 := TW.hide r4
  have C1 := TW.hide c1
  clear r1 r2 r3 r4 c1 m1 m2
  generalize s.length = sl at *
  generalize t.length = tl at *
  unfold pc at *
  go_enter Try.func16, Try.ntmps16
  go_wp2_with fail
  have hb := (((Below.refl w.heap.size w).alloc (Nat.le_refl _) (.cells #[.int .i64 d, .int .i64 k, .int .i64 f, .int .i64 dp, .int .u32 lf, .int .u64 off, .int .u32 xof, .int .i64 nd, .int .i64 inn, .slice sa sl sc, .slice ta tl tc] 26)).alloc (by simp) (.cells #[.int .i64 d, .int .i64 k, .int .i64 f, .int .i64 dp, .int .u32 lf, .int .u64 off, .int .u32 xof, .int .i64 nd, .int .i64 inn, .slice sa' sl sc', .slice ta' tl tc'] 26))
  refine (C1.out _ (R1.out.below hb) (R2.out.below hb) (R3.out.below hb) (R4.out.below hb)).mono ?_
  rintro e w1 ⟨rfl, hb2⟩
  have HB : Hid (Below w.heap.size w w1) := hb.trans (hb2.mono (by simp; omega))
  clear hb hb2
  go_wp2_with fail
  go_ret
  exact ⟨rfl, HB.out⟩
end LW
end Go.Proofs.Ytomdplcmbcjkfaa
