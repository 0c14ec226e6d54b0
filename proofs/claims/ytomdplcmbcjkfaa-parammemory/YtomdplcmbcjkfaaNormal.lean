/-
  What the call Normal gives: the same parameters with bytes of their own that do not end with a nought, or Check's error.
-/
import Derived.Test.YtomdplcmbcjkfaaCopied
import Derived.Test.YtomdplcmbcjkfaaTrims
namespace Go.Proofs.Ytomdplcmbcjkfaa
open Go.RowKit
set_option linter.unusedVariables false
namespace LW
open Words
set_option maxRecDepth 20000 in
set_option maxHeartbeats 4000000 in
theorem normal0 (kd d k f dp lf off xof nd inn : Int) (sa ta : Option Addr) (sc tc : Nat) (s t : List Int) (w : World) (r1 : Row w sa s) (r2 : Row w ta t) (n1 : sa = none → sc = 0) (n2 : ta = none → tc = 0) (m1 : s.length ≤ 140737488351232) (m2 : t.length ≤ 140737488351232) (p1 : s.length ≤ sc) (p2 : t.length ≤ tc)
    (H : Hid (∀ W : World, Calls Try.prog 17 #[.int .i64 kd, .agg (pc d k f dp lf off xof nd inn (.slice sa s.length sc) (.slice ta t.length tc))] W fun e w' => e = .returned (.int .i64 0) ∧ Below W.heap.size W w')) :
    Calls Try.prog 6 #[.int .i64 kd, .agg (pc d k f dp lf off xof nd inn (.slice sa s.length sc) (.slice ta t.length tc))] w fun e w' =>
      ∃ x y, e = .returned (.tuple #[.agg (pc d k f dp lf off xof nd inn x y), .int .i64 0]) ∧ w'.ownsRow w.heap.size 5 1 x (tr s).length (vs (tr s)) ∧ w'.ownsRow w.heap.size 5 1 y (tr t).length (vs (tr t)) ∧ Below w.heap.size w w' := by
  have e1 := fun W (h : Row W sa s) => withoutEnd sa sc s W h n1 (by omega) p1
  have e2 := fun W (h : Row W ta t) => withoutEnd ta tc t W h n2 (by omega) p2
  have hts : (tr s).length ≤ 140737488355328 := by rw [tr_length]; have := tn_le s s.length; omega
  have htt : (tr t).length ≤ 140737488355328 := by rw [tr_length]; have := tn_le t t.length; omega
  have f1 := fun W (h : Row W sa (tr s)) => clone sa sc (tr s) W h n1 hts
  have f2 := fun W (h : Row W ta (tr t)) => clone ta tc (tr t) W h n2 htt
  have R1 := TW.hide r1
  have R2 := TW.hide r2
  have E1 := TW.hide e1
  have E2 := TW.hide e2
  have F1 := TW.hide f1
  have F2 := TW.hide f2
  have X1 := TW.hide (fun (W : World) (h : Row W sa s) => h.tr)
  have X2 := TW.hide (fun (W : World) (h : Row W ta t) => h.tr)
  unfold pc at *
  generalize hsl : s.length = sl at *
  generalize htl : t.length = tl at *
  generalize (tr s).length = sn at *
  generalize (tr t).length = tn' at *
  have hb := ((Below.refl w.heap.size w).alloc (Nat.le_refl _) (.cells #[.int .i64 d, .int .i64 k, .int .i64 f, .int .i64 dp, .int .u32 lf, .int .u64 off, .int .u32 xof, .int .i64 nd, .int .i64 inn, .slice sa sl sc, .slice ta tl tc] 26)).alloc (by simp) (.cells #[.int .i64 0, .int .i64 0, .int .i64 0, .int .i64 0, .int .u32 0, .int .u64 0, .int .u32 0, .int .i64 0, .int .i64 0, .slice none 0 0, .slice none 0 0] 26)
  have q0 := blk_alloc (o' := (.cells #[.int .i64 0, .int .i64 0, .int .i64 0, .int .i64 0, .int .u32 0, .int .u64 0, .int .u32 0, .int .i64 0, .int .i64 0, .slice none 0 0, .slice none 0 0] 26)) (heap_alloc_new w (.cells #[.int .i64 d, .int .i64 k, .int .i64 f, .int .i64 dp, .int .u32 lf, .int .u64 off, .int .u32 xof, .int .i64 nd, .int .i64 inn, .slice sa sl sc, .slice ta tl tc] 26))
  have q1 := heap_alloc_new (w.alloc (.cells #[.int .i64 d, .int .i64 k, .int .i64 f, .int .i64 dp, .int .u32 lf, .int .u64 off, .int .u32 xof, .int .i64 nd, .int .i64 inn, .slice sa sl sc, .slice ta tl tc] 26)) (.cells #[.int .i64 0, .int .i64 0, .int .i64 0, .int .i64 0, .int .u32 0, .int .u64 0, .int .u32 0, .int .i64 0, .int .i64 0, .slice none 0 0, .slice none 0 0] 26)
  rw [show (w.alloc (.cells #[.int .i64 d, .int .i64 k, .int .i64 f, .int .i64 dp, .int .u32 lf, .int .u64 off, .int .u32 xof, .int .i64 nd, .int .i64 inn, .slice sa sl sc, .slice ta tl tc] 26)).heap.size = w.heap.size + 1 by simp] at q1
  clear hsl htl r1 r2 n1 n2 e1 e2 f1 f2
  go_enter Try.func6, Try.ntmps6
  refine wp_seq_k fun K hK => ?_
  have HK := TW.hide hK
  clear hK
  go_wp2
  refine HK.out _ _ ?_
  clear HK K
  generalize (w.alloc (.cells #[.int .i64 d, .int .i64 k, .int .i64 f, .int .i64 dp, .int .u32 lf, .int .u64 off, .int .u32 xof, .int .i64 nd, .int .i64 inn, .slice sa sl sc, .slice ta tl tc] 26)).alloc (.cells #[.int .i64 0, .int .i64 0, .int .i64 0, .int .i64 0, .int .u32 0, .int .u64 0, .int .u32 0, .int .i64 0, .int .i64 0, .slice none 0 0, .slice none 0 0] 26) = W at hb q0 q1 ⊢
  obtain ⟨c0, c1, c2, c3, c4, c5, c6, c7, c8, c9, c10, f0, f1, f2, f3, f4, f5, f6, f7, f8, f9, f10⟩ := cells11 q0
  have Q0 := TW.hide q0
  have Q1 := TW.hide q1
  have HB := TW.hide hb
  have hWs : w.heap.size + 1 < W.heap.size := blk_lt q1
  clear q0 q1 hb
  go_wp2_with fail
  refine (H.out _).mono ?_
  rintro e w1 ⟨rfl, hb1⟩
  have M1 := TW.hide (blk_keep Q0.out hb1)
  have M1' := TW.hide (blk_keep Q1.out hb1)
  have A1 : Hid (Below w.heap.size w w1) := HB.out.trans (hb1.mono HB.out.size)
  have s1 := hb1.size
  have k9 := blk_cell M1.out (i := 9) (v := .slice sa sl sc) rfl
  clear hb1 Q0 Q1 HB c0 c1 c2 c3 c4 c5 c6 c7 c8 c9 c10 f0 f1 f2 f3 f4 f5 f6 f7 f8 f9 f10
  go_wp2_with fail
  refine (E1.out _ (R1.out.below A1.out)).mono ?_
  rintro e w1' ⟨rfl, q, rfl⟩
  go_wp2_with fail
  refine (F1.out _ (X1.out _ ((R1.out.below A1.out).drewN q))).mono ?_
  rintro e w2 ⟨x, rfl, ox, hb2⟩
  obtain ⟨xa, xc, rfl⟩ := own_form ox
  have hb2' : Below w1.heap.size w1 w2 := ⟨hb2.os, hb2.tape, hb2.output, hb2.size, hb2.block⟩
  have n2 := blk_keep M1.out hb2'
  have M2' := TW.hide (blk_keep M1'.out hb2')
  have g9 := blk_cell n2 (i := 9) (v := .slice sa sl sc) rfl
  have g10 := blk_cell n2 (i := 10) (v := .slice ta tl tc) rfl
  have z9 : w2.frozen? ⟨w.heap.size, 9, none⟩ = false := by simp [World.frozen?, n2]
  have M2 := TW.hide n2
  have O1 : Hid (w2.ownsRow w1.heap.size 5 1 (.slice xa sn xc) sn (vs (tr s))) := ox
  have A2 : Hid (Below w.heap.size w w2) := A1.out.trans (hb2'.mono A1.out.size)
  have s2 := hb2'.size
  clear ox hb2 hb2' n2 M1 M1' A1 k9
  go_wp2_with fail
  have A2' : Hid (Below w.heap.size w (w2.setCell ⟨w.heap.size, 9, none⟩ (.slice xa sn xc))) := A2.out.setCell (Nat.le_refl _) _
  refine (E2.out _ (R2.out.below A2'.out)).mono ?_
  rintro e w2' ⟨rfl, q', rfl⟩
  go_wp2_with fail
  refine (F2.out _ (X2.out _ ((R2.out.below A2'.out).drewN q'))).mono ?_
  rintro e w3 ⟨y, rfl, oy, hb3⟩
  obtain ⟨ya, yc, rfl⟩ := own_form oy
  have hz2 : (w2.setCell ⟨w.heap.size, 9, none⟩ (.slice xa sn xc)).heap.size = w2.heap.size := by simp [World.setCell]
  have hb3' : Below (w2.setCell ⟨w.heap.size, 9, none⟩ (.slice xa sn xc)).heap.size (w2.setCell ⟨w.heap.size, 9, none⟩ (.slice xa sn xc)) w3 := ⟨hb3.os, hb3.tape, hb3.output, hb3.size, hb3.block⟩
  have n3 := blk_keep (blk_set (i := 9) (u := .slice xa sn xc) M2.out) hb3'
  have q3 := blk_keep (blk_other (p := w.heap.size) (o := 9) (u := .slice xa sn xc) M2'.out (by omega)) hb3'
  obtain ⟨h0, h1, h2, h3, h4, h5, h6, h7, h8, h9, h10, l0, l1, l2, l3, l4, l5, l6, l7, l8, l9, l10⟩ := cells11 n3
  obtain ⟨j0, j1, j2, j3, j4, j5, j6, j7, j8, j9, j10, o0, o1, o2, o3, o4, o5, o6, o7, o8, o9, o10⟩ := cells11 q3
  have hne1 : w.heap.size + 1 ≠ w.heap.size := by omega
  have O1' := TW.hide (own_below (own_set (p := w.heap.size) (o := 9) (u := .slice xa sn xc) O1.out (by omega)) hb3')
  have O2 : Hid (w3.ownsRow w1.heap.size 5 1 (.slice ya tn' yc) tn' (vs (tr t))) := own_mono' oy (by show w1.heap.size ≤ (w2.setCell ⟨w.heap.size, 9, none⟩ (.slice xa sn xc)).heap.size; omega)
  have A3 : Hid (Below w.heap.size w w3) := A2'.out.trans (hb3'.mono A2'.out.size)
  have Q3 := TW.hide q3
  clear oy hb3 hb3' n3 q3 M2 M2' A2 A2' g9 g10 z9 O1 hz2
  go_wp2_with fail
  refine bodyPost_ret (v := .tuple #[.agg #[.int .i64 d, .int .i64 k, .int .i64 f, .int .i64 dp, .int .u32 lf, .int .u64 off, .int .u32 xof, .int .i64 nd, .int .i64 inn, .slice xa sn xc, .slice ya tn' yc], .int .i64 0]) (results_row_tmp (P := Try.prog) Try.results6 _ _ (w.heap.size + 1) 26 _ (0, 0) _ _ rfl rfl (blk_set11 (blk_other Q3.out hne1)) Try.underlying26 rfl (by kernel_rfl)) rfl ?_
  refine ⟨_, _, rfl, ?_, ?_, ?_⟩
  · exact own_mono' (own_set11 (own_set O1'.out (by omega)) (by omega)) (by omega)
  · exact own_mono' (own_set11 (own_set O2.out (by omega)) (by omega)) (by omega)
  · exact below_set11 (A3.out.setCell (Nat.le_refl _) _) (by omega)
set_option maxRecDepth 20000 in
set_option maxHeartbeats 4000000 in
theorem normalE (kd d k f dp lf off xof nd inn : Int) (S T : Value) (E : Int) (hE : ¬ E = 0) (hS : ∃ a n c, S = .slice a n c) (hT : ∃ a n c, T = .slice a n c) (w : World)
    (H : Hid (∀ W : World, Calls Try.prog 17 #[.int .i64 kd, .agg (pc d k f dp lf off xof nd inn S T)] W fun e w' => e = .returned (.int .i64 E) ∧ Below W.heap.size W w')) :
    Calls Try.prog 6 #[.int .i64 kd, .agg (pc d k f dp lf off xof nd inn S T)] w fun e w' =>
      e = .returned (.tuple #[.agg (pc 0 0 0 0 0 0 0 0 0 (.slice none 0 0) (.slice none 0 0)), .int .i64 E]) ∧ Below w.heap.size w w' := by
  obtain ⟨sa, sl, sc, rfl⟩ := hS
  obtain ⟨ta, tl, tc, rfl⟩ := hT
  unfold pc at *
  have hE' : (E != 0) = true := by simp [hE]
  have hb := ((Below.refl w.heap.size w).alloc (Nat.le_refl _) (.cells #[.int .i64 d, .int .i64 k, .int .i64 f, .int .i64 dp, .int .u32 lf, .int .u64 off, .int .u32 xof, .int .i64 nd, .int .i64 inn, .slice sa sl sc, .slice ta tl tc] 26)).alloc (by simp) (.cells #[.int .i64 0, .int .i64 0, .int .i64 0, .int .i64 0, .int .u32 0, .int .u64 0, .int .u32 0, .int .i64 0, .int .i64 0, .slice none 0 0, .slice none 0 0] 26)
  have q0 := blk_alloc (o' := (.cells #[.int .i64 0, .int .i64 0, .int .i64 0, .int .i64 0, .int .u32 0, .int .u64 0, .int .u32 0, .int .i64 0, .int .i64 0, .slice none 0 0, .slice none 0 0] 26)) (heap_alloc_new w (.cells #[.int .i64 d, .int .i64 k, .int .i64 f, .int .i64 dp, .int .u32 lf, .int .u64 off, .int .u32 xof, .int .i64 nd, .int .i64 inn, .slice sa sl sc, .slice ta tl tc] 26))
  have q1 := heap_alloc_new (w.alloc (.cells #[.int .i64 d, .int .i64 k, .int .i64 f, .int .i64 dp, .int .u32 lf, .int .u64 off, .int .u32 xof, .int .i64 nd, .int .i64 inn, .slice sa sl sc, .slice ta tl tc] 26)) (.cells #[.int .i64 0, .int .i64 0, .int .i64 0, .int .i64 0, .int .u32 0, .int .u64 0, .int .u32 0, .int .i64 0, .int .i64 0, .slice none 0 0, .slice none 0 0] 26)
  rw [show (w.alloc (.cells #[.int .i64 d, .int .i64 k, .int .i64 f, .int .i64 dp, .int .u32 lf, .int .u64 off, .int .u32 xof, .int .i64 nd, .int .i64 inn, .slice sa sl sc, .slice ta tl tc] 26)).heap.size = w.heap.size + 1 by simp] at q1
  go_enter Try.func6, Try.ntmps6
  refine wp_seq_k fun K hK => ?_
  have HK := TW.hide hK
  clear hK
  go_wp2
  refine HK.out _ _ ?_
  clear HK K
  generalize (w.alloc (.cells #[.int .i64 d, .int .i64 k, .int .i64 f, .int .i64 dp, .int .u32 lf, .int .u64 off, .int .u32 xof, .int .i64 nd, .int .i64 inn, .slice sa sl sc, .slice ta tl tc] 26)).alloc (.cells #[.int .i64 0, .int .i64 0, .int .i64 0, .int .i64 0, .int .u32 0, .int .u64 0, .int .u32 0, .int .i64 0, .int .i64 0, .slice none 0 0, .slice none 0 0] 26) = W at hb q0 q1 ⊢
  obtain ⟨c0, c1, c2, c3, c4, c5, c6, c7, c8, c9, c10, f0, f1, f2, f3, f4, f5, f6, f7, f8, f9, f10⟩ := cells11 q0
  have Q1 := TW.hide q1
  have HB := TW.hide hb
  have hWs : w.heap.size + 1 < W.heap.size := blk_lt q1
  clear q0 q1 hb
  go_wp2_with fail
  refine (H.out _).mono ?_
  rintro e w1 ⟨rfl, hb1⟩
  have q3 := blk_keep Q1.out hb1
  have A1 : Hid (Below w.heap.size w w1) := HB.out.trans (hb1.mono HB.out.size)
  obtain ⟨j0, j1, j2, j3, j4, j5, j6, j7, j8, j9, j10, o0, o1, o2, o3, o4, o5, o6, o7, o8, o9, o10⟩ := cells11 q3
  have Q3 := TW.hide q3
  clear hb1 Q1 HB c0 c1 c2 c3 c4 c5 c6 c7 c8 c9 c10 f0 f1 f2 f3 f4 f5 f6 f7 f8 f9 f10 q3
  go_wp2_with fail
  refine bodyPost_ret (v := .tuple #[.agg #[.int .i64 0, .int .i64 0, .int .i64 0, .int .i64 0, .int .u32 0, .int .u64 0, .int .u32 0, .int .i64 0, .int .i64 0, .slice none 0 0, .slice none 0 0], .int .i64 E]) (results_row_tmp (P := Try.prog) Try.results6 _ _ (w.heap.size + 1) 26 _ (0, 0) _ _ rfl rfl (blk_set11 Q3.out) Try.underlying26 rfl (by kernel_rfl)) rfl ⟨rfl, ?_⟩
  exact below_set11 A1.out (by omega)
set_option maxRecDepth 20000 in
set_option maxHeartbeats 4000000 in
theorem rnormal0 (kd d k f dp lf off xof nd inn : Int) (sa ta : Option Addr) (sc tc : Nat) (s t : List Int) (w : World) (r1 : Row w sa s) (r2 : Row w ta t) (n1 : sa = none → sc = 0) (n2 : ta = none → tc = 0) (m1 : s.length ≤ 140737488351232) (m2 : t.length ≤ 140737488351232)
    (H : Hid (∀ W : World, Calls Try.prog 32 #[.int .i64 kd, .agg (pc d k f dp lf off xof nd inn (.slice sa s.length sc) (.slice ta t.length tc))] W fun e w' => e = .returned (.int .i64 0) ∧ Below W.heap.size W w')) :
    Calls Try.prog 39 #[.int .i64 kd, .agg (pc d k f dp lf off xof nd inn (.slice sa s.length sc) (.slice ta t.length tc))] w fun e w' =>
      ∃ x y, e = .returned (.tuple #[.agg (pc d k f dp lf off xof nd inn x y), .int .i64 0]) ∧ w'.ownsRow w.heap.size 5 1 x (tr s).length (vs (tr s)) ∧ w'.ownsRow w.heap.size 5 1 y (tr t).length (vs (tr t)) ∧ Below w.heap.size w w' := by
  have f1 := fun W (h : Row W sa s) => trimmed sa sc s W h n1 m1
  have f2 := fun W (h : Row W ta t) => trimmed ta tc t W h n2 m2
  have R1 := TW.hide r1
  have R2 := TW.hide r2
  have F1 := TW.hide f1
  have F2 := TW.hide f2
  unfold pc at *
  generalize hsl : s.length = sl at *
  generalize htl : t.length = tl at *
  generalize (tr s).length = sn at *
  generalize (tr t).length = tn' at *
  have hb := ((Below.refl w.heap.size w).alloc (Nat.le_refl _) (.cells #[.int .i64 d, .int .i64 k, .int .i64 f, .int .i64 dp, .int .u32 lf, .int .u64 off, .int .u32 xof, .int .i64 nd, .int .i64 inn, .slice sa sl sc, .slice ta tl tc] 26)).alloc (by simp) (.cells #[.int .i64 0, .int .i64 0, .int .i64 0, .int .i64 0, .int .u32 0, .int .u64 0, .int .u32 0, .int .i64 0, .int .i64 0, .slice none 0 0, .slice none 0 0] 26)
  have q0 := blk_alloc (o' := (.cells #[.int .i64 0, .int .i64 0, .int .i64 0, .int .i64 0, .int .u32 0, .int .u64 0, .int .u32 0, .int .i64 0, .int .i64 0, .slice none 0 0, .slice none 0 0] 26)) (heap_alloc_new w (.cells #[.int .i64 d, .int .i64 k, .int .i64 f, .int .i64 dp, .int .u32 lf, .int .u64 off, .int .u32 xof, .int .i64 nd, .int .i64 inn, .slice sa sl sc, .slice ta tl tc] 26))
  have q1 := heap_alloc_new (w.alloc (.cells #[.int .i64 d, .int .i64 k, .int .i64 f, .int .i64 dp, .int .u32 lf, .int .u64 off, .int .u32 xof, .int .i64 nd, .int .i64 inn, .slice sa sl sc, .slice ta tl tc] 26)) (.cells #[.int .i64 0, .int .i64 0, .int .i64 0, .int .i64 0, .int .u32 0, .int .u64 0, .int .u32 0, .int .i64 0, .int .i64 0, .slice none 0 0, .slice none 0 0] 26)
  rw [show (w.alloc (.cells #[.int .i64 d, .int .i64 k, .int .i64 f, .int .i64 dp, .int .u32 lf, .int .u64 off, .int .u32 xof, .int .i64 nd, .int .i64 inn, .slice sa sl sc, .slice ta tl tc] 26)).heap.size = w.heap.size + 1 by simp] at q1
  clear hsl htl r1 r2 n1 n2 f1 f2
  go_enter Try.func39, Try.ntmps39
  refine wp_seq_k fun K hK => ?_
  have HK := TW.hide hK
  clear hK
  go_wp2
  refine HK.out _ _ ?_
  clear HK K
  generalize (w.alloc (.cells #[.int .i64 d, .int .i64 k, .int .i64 f, .int .i64 dp, .int .u32 lf, .int .u64 off, .int .u32 xof, .int .i64 nd, .int .i64 inn, .slice sa sl sc, .slice ta tl tc] 26)).alloc (.cells #[.int .i64 0, .int .i64 0, .int .i64 0, .int .i64 0, .int .u32 0, .int .u64 0, .int .u32 0, .int .i64 0, .int .i64 0, .slice none 0 0, .slice none 0 0] 26) = W at hb q0 q1 ⊢
  obtain ⟨c0, c1, c2, c3, c4, c5, c6, c7, c8, c9, c10, f0, f1, f2, f3, f4, f5, f6, f7, f8, f9, f10⟩ := cells11 q0
  have Q0 := TW.hide q0
  have Q1 := TW.hide q1
  have HB := TW.hide hb
  have hWs : w.heap.size + 1 < W.heap.size := blk_lt q1
  clear q0 q1 hb
  go_wp2_with fail
  refine (H.out _).mono ?_
  rintro e w1 ⟨rfl, hb1⟩
  have M1 := TW.hide (blk_keep Q0.out hb1)
  have M1' := TW.hide (blk_keep Q1.out hb1)
  have A1 : Hid (Below w.heap.size w w1) := HB.out.trans (hb1.mono HB.out.size)
  have s1 := hb1.size
  have k9 := blk_cell M1.out (i := 9) (v := .slice sa sl sc) rfl
  clear hb1 Q0 Q1 HB c0 c1 c2 c3 c4 c5 c6 c7 c8 c9 c10 f0 f1 f2 f3 f4 f5 f6 f7 f8 f9 f10
  go_wp2_with fail
  refine (F1.out _ (R1.out.below A1.out)).mono ?_
  rintro e w2 ⟨x, rfl, ox, hb2⟩
  obtain ⟨xa, xc, rfl⟩ := own_form ox
  have hb2' : Below w1.heap.size w1 w2 := ⟨hb2.os, hb2.tape, hb2.output, hb2.size, hb2.block⟩
  have n2 := blk_keep M1.out hb2'
  have M2' := TW.hide (blk_keep M1'.out hb2')
  have g9 := blk_cell n2 (i := 9) (v := .slice sa sl sc) rfl
  have g10 := blk_cell n2 (i := 10) (v := .slice ta tl tc) rfl
  have z9 : w2.frozen? ⟨w.heap.size, 9, none⟩ = false := by simp [World.frozen?, n2]
  have M2 := TW.hide n2
  have O1 : Hid (w2.ownsRow w1.heap.size 5 1 (.slice xa sn xc) sn (vs (tr s))) := ox
  have A2 : Hid (Below w.heap.size w w2) := A1.out.trans (hb2'.mono A1.out.size)
  have s2 := hb2'.size
  clear ox hb2 hb2' n2 M1 M1' A1 k9
  go_wp2_with fail
  have A2' : Hid (Below w.heap.size w (w2.setCell ⟨w.heap.size, 9, none⟩ (.slice xa sn xc))) := A2.out.setCell (Nat.le_refl _) _
  refine (F2.out _ (R2.out.below A2'.out)).mono ?_
  rintro e w3 ⟨y, rfl, oy, hb3⟩
  obtain ⟨ya, yc, rfl⟩ := own_form oy
  have hz2 : (w2.setCell ⟨w.heap.size, 9, none⟩ (.slice xa sn xc)).heap.size = w2.heap.size := by simp [World.setCell]
  have hb3' : Below (w2.setCell ⟨w.heap.size, 9, none⟩ (.slice xa sn xc)).heap.size (w2.setCell ⟨w.heap.size, 9, none⟩ (.slice xa sn xc)) w3 := ⟨hb3.os, hb3.tape, hb3.output, hb3.size, hb3.block⟩
  have n3 := blk_keep (blk_set (i := 9) (u := .slice xa sn xc) M2.out) hb3'
  have q3 := blk_keep (blk_other (p := w.heap.size) (o := 9) (u := .slice xa sn xc) M2'.out (by omega)) hb3'
  obtain ⟨h0, h1, h2, h3, h4, h5, h6, h7, h8, h9, h10, l0, l1, l2, l3, l4, l5, l6, l7, l8, l9, l10⟩ := cells11 n3
  obtain ⟨j0, j1, j2, j3, j4, j5, j6, j7, j8, j9, j10, o0, o1, o2, o3, o4, o5, o6, o7, o8, o9, o10⟩ := cells11 q3
  have hne1 : w.heap.size + 1 ≠ w.heap.size := by omega
  have O1' := TW.hide (own_below (own_set (p := w.heap.size) (o := 9) (u := .slice xa sn xc) O1.out (by omega)) hb3')
  have O2 : Hid (w3.ownsRow w1.heap.size 5 1 (.slice ya tn' yc) tn' (vs (tr t))) := own_mono' oy (by show w1.heap.size ≤ (w2.setCell ⟨w.heap.size, 9, none⟩ (.slice xa sn xc)).heap.size; omega)
  have A3 : Hid (Below w.heap.size w w3) := A2'.out.trans (hb3'.mono A2'.out.size)
  have Q3 := TW.hide q3
  clear oy hb3 hb3' n3 q3 M2 M2' A2 A2' g9 g10 z9 O1 hz2
  go_wp2_with fail
  refine bodyPost_ret (v := .tuple #[.agg #[.int .i64 d, .int .i64 k, .int .i64 f, .int .i64 dp, .int .u32 lf, .int .u64 off, .int .u32 xof, .int .i64 nd, .int .i64 inn, .slice xa sn xc, .slice ya tn' yc], .int .i64 0]) (results_row_tmp (P := Try.prog) Try.results39 _ _ (w.heap.size + 1) 26 _ (0, 0) _ _ rfl rfl (blk_set11 (blk_other Q3.out hne1)) Try.underlying26 rfl (by kernel_rfl)) rfl ?_
  refine ⟨_, _, rfl, ?_, ?_, ?_⟩
  · exact own_mono' (own_set11 (own_set O1'.out (by omega)) (by omega)) (by omega)
  · exact own_mono' (own_set11 (own_set O2.out (by omega)) (by omega)) (by omega)
  · exact below_set11 (A3.out.setCell (Nat.le_refl _) _) (by omega)
set_option maxRecDepth 20000 in
set_option maxHeartbeats 4000000 in
theorem rnormalE (kd d k f dp lf off xof nd inn : Int) (S T : Value) (E : Int) (hE : ¬ E = 0) (hS : ∃ a n c, S = .slice a n c) (hT : ∃ a n c, T = .slice a n c) (w : World)
    (H : Hid (∀ W : World, Calls Try.prog 32 #[.int .i64 kd, .agg (pc d k f dp lf off xof nd inn S T)] W fun e w' => e = .returned (.int .i64 E) ∧ Below W.heap.size W w')) :
    Calls Try.prog 39 #[.int .i64 kd, .agg (pc d k f dp lf off xof nd inn S T)] w fun e w' =>
      e = .returned (.tuple #[.agg (pc 0 0 0 0 0 0 0 0 0 (.slice none 0 0) (.slice none 0 0)), .int .i64 E]) ∧ Below w.heap.size w w' := by
  obtain ⟨sa, sl, sc, rfl⟩ := hS
  obtain ⟨ta, tl, tc, rfl⟩ := hT
  unfold pc at *
  have hE' : (E != 0) = true := by simp [hE]
  have hb := ((Below.refl w.heap.size w).alloc (Nat.le_refl _) (.cells #[.int .i64 d, .int .i64 k, .int .i64 f, .int .i64 dp, .int .u32 lf, .int .u64 off, .int .u32 xof, .int .i64 nd, .int .i64 inn, .slice sa sl sc, .slice ta tl tc] 26)).alloc (by simp) (.cells #[.int .i64 0, .int .i64 0, .int .i64 0, .int .i64 0, .int .u32 0, .int .u64 0, .int .u32 0, .int .i64 0, .int .i64 0, .slice none 0 0, .slice none 0 0] 26)
  have q0 := blk_alloc (o' := (.cells #[.int .i64 0, .int .i64 0, .int .i64 0, .int .i64 0, .int .u32 0, .int .u64 0, .int .u32 0, .int .i64 0, .int .i64 0, .slice none 0 0, .slice none 0 0] 26)) (heap_alloc_new w (.cells #[.int .i64 d, .int .i64 k, .int .i64 f, .int .i64 dp, .int .u32 lf, .int .u64 off, .int .u32 xof, .int .i64 nd, .int .i64 inn, .slice sa sl sc, .slice ta tl tc] 26))
  have q1 := heap_alloc_new (w.alloc (.cells #[.int .i64 d, .int .i64 k, .int .i64 f, .int .i64 dp, .int .u32 lf, .int .u64 off, .int .u32 xof, .int .i64 nd, .int .i64 inn, .slice sa sl sc, .slice ta tl tc] 26)) (.cells #[.int .i64 0, .int .i64 0, .int .i64 0, .int .i64 0, .int .u32 0, .int .u64 0, .int .u32 0, .int .i64 0, .int .i64 0, .slice none 0 0, .slice none 0 0] 26)
  rw [show (w.alloc (.cells #[.int .i64 d, .int .i64 k, .int .i64 f, .int .i64 dp, .int .u32 lf, .int .u64 off, .int .u32 xof, .int .i64 nd, .int .i64 inn, .slice sa sl sc, .slice ta tl tc] 26)).heap.size = w.heap.size + 1 by simp] at q1
  go_enter Try.func39, Try.ntmps39
  refine wp_seq_k fun K hK => ?_
  have HK := TW.hide hK
  clear hK
  go_wp2
  refine HK.out _ _ ?_
  clear HK K
  generalize (w.alloc (.cells #[.int .i64 d, .int .i64 k, .int .i64 f, .int .i64 dp, .int .u32 lf, .int .u64 off, .int .u32 xof, .int .i64 nd, .int .i64 inn, .slice sa sl sc, .slice ta tl tc] 26)).alloc (.cells #[.int .i64 0, .int .i64 0, .int .i64 0, .int .i64 0, .int .u32 0, .int .u64 0, .int .u32 0, .int .i64 0, .int .i64 0, .slice none 0 0, .slice none 0 0] 26) = W at hb q0 q1 ⊢
  obtain ⟨c0, c1, c2, c3, c4, c5, c6, c7, c8, c9, c10, f0, f1, f2, f3, f4, f5, f6, f7, f8, f9, f10⟩ := cells11 q0
  have Q1 := TW.hide q1
  have HB := TW.hide hb
  have hWs : w.heap.size + 1 < W.heap.size := blk_lt q1
  clear q0 q1 hb
  go_wp2_with fail
  refine (H.out _).mono ?_
  rintro e w1 ⟨rfl, hb1⟩
  have q3 := blk_keep Q1.out hb1
  have A1 : Hid (Below w.heap.size w w1) := HB.out.trans (hb1.mono HB.out.size)
  obtain ⟨j0, j1, j2, j3, j4, j5, j6, j7, j8, j9, j10, o0, o1, o2, o3, o4, o5, o6, o7, o8, o9, o10⟩ := cells11 q3
  have Q3 := TW.hide q3
  clear hb1 Q1 HB c0 c1 c2 c3 c4 c5 c6 c7 c8 c9 c10 f0 f1 f2 f3 f4 f5 f6 f7 f8 f9 f10 q3
  go_wp2_with fail
  refine bodyPost_ret (v := .tuple #[.agg #[.int .i64 0, .int .i64 0, .int .i64 0, .int .i64 0, .int .u32 0, .int .u64 0, .int .u32 0, .int .i64 0, .int .i64 0, .slice none 0 0, .slice none 0 0], .int .i64 E]) (results_row_tmp (P := Try.prog) Try.results39 _ _ (w.heap.size + 1) 26 _ (0, 0) _ _ rfl rfl (blk_set11 Q3.out) Try.underlying26 rfl (by kernel_rfl)) rfl ⟨rfl, ?_⟩
  exact below_set11 A1.out (by omega)
end LW
end Go.Proofs.Ytomdplcmbcjkfaa
