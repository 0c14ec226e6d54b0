/-
  What the law ParamDecodes does: Decode of the program answers as the document's, in both forms.
-/
import Derived.Test.YtpcahieaakjaaaaDecU
import Derived.Test.YtpcahieaakjaaaaChecksWalk
namespace Go.Proofs.Ytpcahieaakjaaaa
open Go.RowKit
set_option linter.unusedVariables false
set_option linter.unusedSimpArgs false
namespace LW
open Words
attribute [local go_sem ↓] Go.wp_at_zero Go.wp_at_succ
theorem own_max {w : World} {B n : Nat} {a : Option Addr} {cap : Nat} {xs : List Value} (h : w.ownsRow B 5 1 (.slice a n cap) n xs) : cap ≤ maxLen := by
  rcases h.2 with ⟨e, h0⟩ | ⟨g, cap', cur, e, hg, hh, hn, hm, hc, ht⟩
  · injection e with e1 e2 e3; rw [e3]; simp
  · injection e with e1 e2 e3; rw [e3]; omega
set_option maxRecDepth 100000 in
set_option maxHeartbeats 8000000 in
theorem decodesGen (kd E : Int) (x : Bool) (P : Pm) (a : Option Addr) (cap : Nat) (zs S T : List Int) (w : World) (h : Pb w a cap zs)
    (H28 : Hid (∀ a c W, Pb W a c zs → c ≤ maxLen → Calls Try.prog 22 #[.int .i64 kd, .slice a zs.length c, .bool x] W fun e w' => ∃ a c b d, e = .returned (.tuple #[.agg (pcP P (.slice a S.length c) (.slice b T.length d)), .int .i64 E]) ∧ Pa w' a c S ∧ Pa w' b d T ∧ Below W.heap.size W w'))
    (H29 : Hid (∀ W, Below w.heap.size w W → Calls Try.prog 23 #[.int .i64 kd, .slice a zs.length cap, .bool x] W fun e w' => ∃ a c b d, e = .returned (.tuple #[.agg (pcP P (.slice a S.length c) (.slice b T.length d)), .int .i64 E]) ∧ Pa w' a c S ∧ Pa w' b d T ∧ Below W.heap.size W w'))
    (H15 : Hid (∀ a c b d a' c' b' d' W, Pa W a c S → Pa W b d T → Pa W a' c' S → Pa W b' d' T → Calls Try.prog 14 #[.agg (pcP P (.slice a S.length c) (.slice b T.length d)), .agg (pcP P (.slice a' S.length c') (.slice b' T.length d'))] W fun e w' => e = .returned (.bool true) ∧ Below W.heap.size W w')) :
    Calls Try.prog 5 #[.int .i64 kd, .slice a zs.length cap, .bool x] w fun e w' => e = .returned (.bool true) ∧ Below w.heap.size w w' := by
  have hEE : (E == E) = true := by simp
  have HH := TW.hide h
  have hl : zs.length ≤ 140737488351232 := h.len
  generalize hL : zs.length = len at *
  have HLL := TW.hide hL
  clear h hL
  go_enter Try.func5, Try.ntmps5
  go_wp2_with (refine wpList_copy_row (by rfl) _ _ (by rfl) a cap zs len HLL.out (by rfl) (by rfl) HH.out.row HH.out.nil hl ?_; intro v1 w1 hown hbel)
  obtain ⟨oa, oc, rfl, pa0⟩ : ∃ oa oc, v1 = .slice oa len oc ∧ Pa w1 oa oc zs := by
    have h2 := hown
    rw [← HLL.out] at h2 ⊢
    exact Pa.own h2 HH.out.len HH.out.byt
  have hmax := own_max hown
  have HO := TW.hide pa0
  have HB := TW.hide hbel
  have HMX := TW.hide hmax
  clear hown hbel pa0 hmax
  go_wp2_with fail
  refine (H28.out _ _ _ HO.out.toPb HMX.out).mono ?_
  rintro e w2 ⟨a1, c1, b1, d1, rfl, pa1, pb1, hb⟩
  have B2 : Hid (Below w.heap.size w w2) := HB.out.trans (hb.mono HB.out.size)
  have PA := TW.hide pa1
  have PB := TW.hide pb1
  clear hb pa1 pb1 HO HB HMX
  have nx := setRow_heap _ _ _ (pcP P (.slice a1 S.length c1) (.slice b1 T.length d1)) _ _ (heap_new w2 (.cells #[.int .i64 0, .int .i64 0, .int .i64 0, .int .i64 0, .int .u32 0, .int .u64 0, .int .u32 0, .int .i64 0, .int .i64 0, .slice none 0 0, .slice none 0 0] 26))
  have bx := below_setRow (cs := (pcP P (.slice a1 S.length c1) (.slice b1 T.length d1))) ((Below.refl w2.heap.size w2).alloc (Nat.le_refl _) (.cells #[.int .i64 0, .int .i64 0, .int .i64 0, .int .i64 0, .int .u32 0, .int .u64 0, .int .u32 0, .int .i64 0, .int .i64 0, .slice none 0 0, .slice none 0 0] 26)) (g := w2.heap.size) (Nat.le_refl _)
  have B3 : Hid (Below w.heap.size w ((w2.alloc (.cells #[.int .i64 0, .int .i64 0, .int .i64 0, .int .i64 0, .int .u32 0, .int .u64 0, .int .u32 0, .int .i64 0, .int .i64 0, .slice none 0 0, .slice none 0 0] 26)).setRow w2.heap.size (pcP P (.slice a1 S.length c1) (.slice b1 T.length d1)))) := B2.out.trans (bx.mono B2.out.size)
  have NX := TW.hide nx
  have PA2 := TW.hide (PA.out.below bx)
  have PB2 := TW.hide (PB.out.below bx)
  clear nx bx PA PB B2
  go_wp2_with (first | (refine wpList_store_row (by rfl) 26 _ _ (by rfl) (w2.heap.size) (pcP P (.slice a1 S.length c1) (.slice b1 T.length d1)) (by rfl) (by rfl) 26 _ (heap_new w2 _) (info31 _ _ _) (pc_size Pm.zero _ _ _ _ _) (pc_one _ _ _ _ _ _ _) ?_))
  generalize ((w2.alloc (.cells #[.int .i64 0, .int .i64 0, .int .i64 0, .int .i64 0, .int .u32 0, .int .u64 0, .int .u32 0, .int .i64 0, .int .i64 0, .slice none 0 0, .slice none 0 0] 26)).setRow w2.heap.size (pcP P (.slice a1 S.length c1) (.slice b1 T.length d1))) = Y2 at *
  generalize w2.heap.size = g1 at *
  refine (H29.out _ B3.out).mono ?_
  rintro e w3 ⟨a2, c2, b2, d2, rfl, pa2, pb2, hb⟩
  have NX' := TW.hide (blk_keep NX.out hb)
  have PA2' := TW.hide (PA2.out.below hb)
  have PB2' := TW.hide (PB2.out.below hb)
  have B4 : Hid (Below w.heap.size w w3) := B3.out.trans (hb.mono B3.out.size)
  clear hb NX PA2 PB2 B3
  have ny := setRow_heap _ _ _ (pcP P (.slice a2 S.length c2) (.slice b2 T.length d2)) _ _ (heap_new w3 (.cells #[.int .i64 0, .int .i64 0, .int .i64 0, .int .i64 0, .int .u32 0, .int .u64 0, .int .u32 0, .int .i64 0, .int .i64 0, .slice none 0 0, .slice none 0 0] 26))
  have bx := below_setRow (cs := (pcP P (.slice a2 S.length c2) (.slice b2 T.length d2))) ((Below.refl w3.heap.size w3).alloc (Nat.le_refl _) (.cells #[.int .i64 0, .int .i64 0, .int .i64 0, .int .i64 0, .int .u32 0, .int .u64 0, .int .u32 0, .int .i64 0, .int .i64 0, .slice none 0 0, .slice none 0 0] 26)) (g := w3.heap.size) (Nat.le_refl _)
  have B5 : Hid (Below w.heap.size w ((w3.alloc (.cells #[.int .i64 0, .int .i64 0, .int .i64 0, .int .i64 0, .int .u32 0, .int .u64 0, .int .u32 0, .int .i64 0, .int .i64 0, .slice none 0 0, .slice none 0 0] 26)).setRow w3.heap.size (pcP P (.slice a2 S.length c2) (.slice b2 T.length d2)))) := B4.out.trans (bx.mono B4.out.size)
  have NY := TW.hide ny
  have NX := TW.hide (blk_keep NX'.out bx)
  have PA2 := TW.hide (PA2'.out.below bx)
  have PB2 := TW.hide (PB2'.out.below bx)
  have PA3 := TW.hide (pa2.below bx)
  have PB3 := TW.hide (pb2.below bx)
  clear ny bx NX' PA2' PB2' B4 pa2 pb2
  go_wp2_with (first | (refine wpList_store_row (by rfl) 26 _ _ (by rfl) (w3.heap.size) (pcP P (.slice a2 S.length c2) (.slice b2 T.length d2)) (by rfl) (by rfl) 26 _ (heap_new w3 _) (info31 _ _ _) (pc_size Pm.zero _ _ _ _ _) (pc_one _ _ _ _ _ _ _) ?_) | (refine wpList_val (.agg (pcP P (.slice a1 S.length c1) (.slice b1 T.length d1))) (by rfl) (exec_load_row' 26 _ (by rfl) (g1) (by rfl) 26 (pcP P (.slice a1 S.length c1) (.slice b1 T.length d1)) (0, 0) _ NX.out Try.underlying26 rfl (info31 _ _ _)) ?_) | (refine wpList_val (.agg (pcP P (.slice a2 S.length c2) (.slice b2 T.length d2))) (by rfl) (exec_load_row' 26 _ (by rfl) (w3.heap.size) (by rfl) 26 (pcP P (.slice a2 S.length c2) (.slice b2 T.length d2)) (0, 0) _ NY.out Try.underlying26 rfl (info31 _ _ _)) ?_))
  refine (H15.out _ _ _ _ _ _ _ _ _ PA2.out PB2.out PA3.out PB3.out).mono ?_
  rintro e w4 ⟨rfl, hb⟩
  have B6 : Hid (Below w.heap.size w w4) := B5.out.trans (hb.mono B5.out.size)
  clear hb
  go_wp2
  go_ret
  exact ⟨rfl, B6.out⟩
theorem says_open {kd : Int} {x : Bool} {zs : List Int} {W w' : World} {e : Ending} (hz : Byt zs) (hl : zs.length ≤ 140737488351232) (h : DecSays kd x zs W e w') :
    ∃ a c b d, e = .returned (.tuple #[.agg (pcP (nP (dE kd x zs) (dP kd x zs)) (.slice a (nS (dE kd x zs) (saL kd zs)).length c) (.slice b (nS (dE kd x zs) (peL kd zs)).length d)), .int .i64 (dE kd x zs)]) ∧ Pa w' a c (nS (dE kd x zs) (saL kd zs)) ∧ Pa w' b d (nS (dE kd x zs) (peL kd zs)) ∧ Below W.heap.size W w' := by
  obtain ⟨u, v, rfl, ou, ov, hb⟩ := h
  have l1 : (saL kd zs).length ≤ 140737488351232 := by unfold saL; simp; omega
  have l2 : (peL kd zs).length ≤ 140737488351232 := by unfold peL; simp; omega
  obtain ⟨a, c, rfl, pa⟩ := Pa.own ou (nS_le _ _ l1) (nS_byt _ _ ((hz.drop _).take _))
  obtain ⟨b, d, rfl, pb⟩ := Pa.own ov (nS_le _ _ l2) (nS_byt _ _ ((hz.drop _).take _))
  exact ⟨a, c, b, d, rfl, pa, pb, hb⟩
theorem decodesLaw (kd : Int) (a : Option Addr) (cap : Nat) (zs : List Int) (x : Bool) (w : World) (_ : (Lit.int .i64 kd).wf = true) (h : Pb w a cap zs) :
    Calls Try.prog 5 #[.int .i64 kd, .slice a zs.length cap, .bool x] w fun e w' => e = .returned (.bool true) ∧ Below w.heap.size w w' := by
  refine decodesGen kd (dE kd x zs) x (nP (dE kd x zs) (dP kd x zs)) a cap zs (nS (dE kd x zs) (saL kd zs)) (nS (dE kd x zs) (peL kd zs)) w h
    (TW.hide fun a c W g1 g2 => (decP kd x a c zs W g1 g2).mono fun e w' h' => says_open h.byt h.len h')
    (TW.hide fun W hb => (rdecP kd x a cap zs W (h.below hb)).mono fun e w' h' => says_open h.byt h.len h')
    (TW.hide fun a c b d a' c' b' d' W g1 g2 g3 g4 => alikeE _ _ _ _ _ _ _ _ _ a b a' b' c d c' d' _ _ W g1.row g2.row g3.row g4.row (by have := g1.len; unfold maxLen; omega) (by have := g2.len; unfold maxLen; omega))
end LW
end Go.Proofs.Ytpcahieaakjaaaa
