/-
  What the law ParamTwins does: the twin of the program is the document's; both have one block; the twin's twin is the first, normal.
-/
import Derived.Test.YtpcahieaakjaaaaTwin
import Derived.Test.YtpcahieaakjaaaaChecksWalk
import Derived.Test.YtpcahieaakjaaaaSame
namespace Go.Proofs.Ytpcahieaakjaaaa
open Go.RowKit
set_option linter.unusedVariables false
set_option linter.unusedSimpArgs false
namespace LW
open Words
attribute [local go_sem ↓] Go.wp_at_zero Go.wp_at_succ
theorem alive0 : (enL 1 (⟨64, 0, 1, 1, 0, 0, 0, 0, 0⟩ : Pm) [] []).length = 64 ∧ (enL 1 (⟨64, 0, 1, 1, 0, 0, 0, 0, 0⟩ : Pm) [] []).getD 0 0 = 64 ∧ (enL 1 (⟨64, 0, 1, 1, 0, 0, 0, 0, 0⟩ : Pm) [] []).getD 2 0 = 1 ∧ (enL 1 (⟨64, 0, 1, 1, 0, 0, 0, 0, 0⟩ : Pm) [] []).getD 3 0 = 1 ∧ Pm.ck 1 (⟨64, 0, 1, 1, 0, 0, 0, 0, 0⟩ : Pm) 0 0 = 0 := by
  refine ⟨by decide +kernel, by decide +kernel, by decide +kernel, by decide +kernel, by decide +kernel⟩
set_option maxRecDepth 100000 in
set_option maxHeartbeats 4000000 in
theorem alive (w : World) : Calls Try.prog 24 #[] w fun e w' => e = .returned (.bool true) ∧ Below w.heap.size w w' := by
  obtain ⟨h64, g0, g2, g3, hck⟩ := alive0
  have hp : ((⟨64, 0, 1, 1, 0, 0, 0, 0, 0⟩ : Pm)).Ok := ⟨by decide, by decide, by decide, by decide, by decide, by decide⟩
  have H23 : Hid (∀ W, Calls Try.prog 17 #[.int .i64 1, .agg #[.int .i64 64, .int .i64 0, .int .i64 1, .int .i64 1, .int .u32 0, .int .u64 0, .int .u32 0, .int .i64 0, .int .i64 0, (.slice none 0 0), (.slice none 0 0)]] W fun e w' => ∃ g, e = .returned (.tuple #[.slice (some ⟨g, 0, none⟩) 64 64, .int .i64 0]) ∧ w'.cell? ⟨g, 0, none⟩ = some (.int .u8 64) ∧ w'.cell? ⟨g, 2, none⟩ = some (.int .u8 1) ∧ w'.cell? ⟨g, 3, none⟩ = some (.int .u8 1) ∧ Below W.heap.size W w') := fun W => by
    refine (encOk 1 (⟨64, 0, 1, 1, 0, 0, 0, 0, 0⟩ : Pm) hp none none 0 0 [] [] W hck (nil_Pa W).toPb (nil_Pa W).toPb).mono ?_
    rintro e w' ⟨g, rfl, hg, hh, hb⟩
    rw [h64]
    refine ⟨g, rfl, ?_, ?_, ?_, hb⟩
    · exact blk_cell hh (by rw [List.getElem?_toArray, vs_get _ _ (by omega), g0])
    · exact blk_cell hh (by rw [List.getElem?_toArray, vs_get _ _ (by omega), g2])
    · exact blk_cell hh (by rw [List.getElem?_toArray, vs_get _ _ (by omega), g3])
  clear h64 g0 g2 g3 hck
  go_enter Try.func24, Try.ntmps24
  go_wp2_with fail
  refine (H23.out _).mono ?_
  rintro e w1 ⟨g, rfl, c0, c2, c3, hb⟩
  have HB := TW.hide hb
  clear hb
  go_wp2
  go_ret
  exact ⟨rfl, HB.out⟩
set_option maxRecDepth 100000 in
set_option maxHeartbeats 8000000 in
theorem twinsNo (kd E : Int) (p P : Pm) (sa ta : Option Addr) (sc tc : Nat) (s t S T : List Int) (w : World)
    (H30 : Hid (∀ W, Calls Try.prog 24 #[] W fun e w' => e = .returned (.bool true) ∧ Below W.heap.size W w'))
    (HC : Hid (∀ W, Below w.heap.size w W → Calls Try.prog 10 #[.agg (pcP p (.slice sa s.length sc) (.slice ta t.length tc))] W fun e w' => ∃ a c b d, e = .returned (.agg (pcP p (.slice a s.length c) (.slice b t.length d))) ∧ Pa w' a c s ∧ Pa w' b d t ∧ Below W.heap.size W w'))
    (H31 : Hid (∀ a c b d W, Pa W a c s → Pa W b d t → Calls Try.prog 25 #[.int .i64 kd, .agg (pcP p (.slice a s.length c) (.slice b t.length d))] W fun e w' => ∃ a c b d, e = .returned (.tuple #[.agg (pcP P (.slice a S.length c) (.slice b T.length d)), .bool false, .int .i64 E]) ∧ Pa w' a c S ∧ Pa w' b d T ∧ Below W.heap.size W w'))
    (H32 : Hid (∀ W, Below w.heap.size w W → Calls Try.prog 26 #[.int .i64 kd, .agg (pcP p (.slice sa s.length sc) (.slice ta t.length tc))] W fun e w' => ∃ a c b d, e = .returned (.tuple #[.agg (pcP P (.slice a S.length c) (.slice b T.length d)), .bool false, .int .i64 E]) ∧ Pa w' a c S ∧ Pa w' b d T ∧ Below W.heap.size W w'))
    (H15 : Hid (∀ a c b d a' c' b' d' W, Pa W a c S → Pa W b d T → Pa W a' c' S → Pa W b' d' T → Calls Try.prog 14 #[.agg (pcP P (.slice a S.length c) (.slice b T.length d)), .agg (pcP P (.slice a' S.length c') (.slice b' T.length d'))] W fun e w' => e = .returned (.bool true) ∧ Below W.heap.size W w'))
 :
    Calls Try.prog 6 #[.int .i64 kd, .agg (pcP p (.slice sa s.length sc) (.slice ta t.length tc))] w fun e w' => e = .returned (.bool true) ∧ Below w.heap.size w w' := by
  have hEE : (E != E) = false := by simp
  have hbf : (false != false) = false := rfl
  have hb := ((Below.refl w.heap.size w).alloc (Nat.le_refl _) (.cells (pcP p (.slice sa s.length sc) (.slice ta t.length tc)) 26))
  have n0 := (heap_new w (.cells (pcP p (.slice sa s.length sc) (.slice ta t.length tc)) 26))
  go_enter Try.func6, Try.ntmps6
  refine wp_seq_k fun K hK => ?_
  have HK := TW.hide hK
  clear hK
  go_wp2
  refine HK.out _ _ ?_
  clear HK K
  change Code.wp _ _ _ _ (w.alloc (.cells (pcP p (.slice sa s.length sc) (.slice ta t.length tc)) 26))
  generalize hWW : w.alloc (.cells (pcP p (.slice sa s.length sc) (.slice ta t.length tc)) 26) = W at hb n0 ⊢
  have hW : W.heap.size = w.heap.size + 1 := by rw [← hWW]; simp
  clear hWW
  generalize hB : w.heap.size = B at *
  have N0 := TW.hide n0
  have NB := TW.hide hb
  clear n0 hb
  clear hW
  refine wp_seq_k fun KK hK => ?_
  have HK := TW.hide hK
  clear hK
  go_wp2_with fail
  refine (H30.out _).mono ?_
  rintro e w1 ⟨rfl, hbb⟩
  have NB' : Hid (Below B w w1) := below_row NB.out hbb (by have := NB.out.size; omega)
  have N0' := TW.hide (blk_keep N0.out hbb)
  clear hbb NB N0
  have NB := NB'
  have N0 := N0'
  clear NB' N0'
  go_wp2
  refine HK.out _ _ ?_
  clear HK KK
  refine wp_seq_k fun KK hK => ?_
  have HK := TW.hide hK
  clear hK
  go_wp2_with (refine wpList_load_row (by rfl) 26 _ (by rfl) (B) (by rfl) 26 (pcP p (.slice sa s.length sc) (.slice ta t.length tc)) (0, 0) _ N0.out Try.underlying26 rfl (info31 _ _ _) ?_)
  refine (HC.out _ NB.out).mono ?_
  rintro e w2 ⟨a1, c1, b1, d1, rfl, pa, pb, hbb⟩
  have PA := TW.hide pa
  have PB := TW.hide pb
  clear pa pb
  have NB' : Hid (Below B w w2) := below_row NB.out hbb (by have := NB.out.size; omega)
  have N0' := TW.hide (blk_keep N0.out hbb)
  clear hbb NB N0
  have NB := NB'
  have N0 := N0'
  clear NB' N0'
  go_wp2_with fail
  refine (H31.out _ _ _ _ _ PA.out PB.out).mono ?_
  rintro e w3 ⟨a2, c2, b2, d2, rfl, pa, pb, hbb⟩
  have QA := TW.hide pa
  have QB := TW.hide pb
  clear pa pb PA PB
  have NB' : Hid (Below B w w3) := below_row NB.out hbb (by have := NB.out.size; omega)
  have N0' := TW.hide (blk_keep N0.out hbb)
  clear hbb NB N0
  have NB := NB'
  have N0 := N0'
  clear NB' N0'
  go_wp2_with (first | (refine wpList_store_row (by rfl) 26 _ _ (by rfl) (w3.heap.size) (pcP P (.slice a2 S.length c2) (.slice b2 T.length d2)) (by rfl) (by rfl) 26 _ (heap_new w3 _) (info31 _ _ _) (pc_size Pm.zero _ _ _ _ _) (pc_one _ _ _ _ _ _ _) ?_))
  have nq := setRow_heap _ _ _ (pcP P (.slice a2 S.length c2) (.slice b2 T.length d2)) _ _ (heap_new w3 (.cells #[.int .i64 0, .int .i64 0, .int .i64 0, .int .i64 0, .int .u32 0, .int .u64 0, .int .u32 0, .int .i64 0, .int .i64 0, .slice none 0 0, .slice none 0 0] 26))
  have hbb := below_setRow (cs := (pcP P (.slice a2 S.length c2) (.slice b2 T.length d2))) ((Below.refl w3.heap.size w3).alloc (Nat.le_refl _) (.cells #[.int .i64 0, .int .i64 0, .int .i64 0, .int .i64 0, .int .u32 0, .int .u64 0, .int .u32 0, .int .i64 0, .int .i64 0, .slice none 0 0, .slice none 0 0] 26)) (g := w3.heap.size) (Nat.le_refl _)
  generalize (w3.alloc (.cells #[.int .i64 0, .int .i64 0, .int .i64 0, .int .i64 0, .int .u32 0, .int .u64 0, .int .u32 0, .int .i64 0, .int .i64 0, .slice none 0 0, .slice none 0 0] 26)).setRow w3.heap.size (pcP P (.slice a2 S.length c2) (.slice b2 T.length d2)) = X3 at nq hbb ⊢
  have NQ := TW.hide nq
  clear nq
  have NB' : Hid (Below B w X3) := below_row NB.out hbb (by have := NB.out.size; omega)
  have N0' := TW.hide (blk_keep N0.out hbb)
  have QA' := TW.hide (QA.out.below hbb)
  have QB' := TW.hide (QB.out.below hbb)
  clear hbb NB N0 QA QB
  have NB := NB'
  have N0 := N0'
  have QA := QA'
  have QB := QB'
  clear NB' N0' QA' QB'
  generalize w3.heap.size = gq at *
  refine HK.out _ _ ?_
  clear HK KK
  refine wp_seq_k fun KK hK => ?_
  have HK := TW.hide hK
  clear hK
  go_wp2_with (refine wpList_load_row (by rfl) 26 _ (by rfl) (B) (by rfl) 26 (pcP p (.slice sa s.length sc) (.slice ta t.length tc)) (0, 0) _ N0.out Try.underlying26 rfl (info31 _ _ _) ?_)
  refine (H32.out _ NB.out).mono ?_
  rintro e w4 ⟨a3, c3, b3, d3, rfl, pa, pb, hbb⟩
  have XA := TW.hide pa
  have XB := TW.hide pb
  clear pa pb
  have NB' : Hid (Below B w w4) := below_row NB.out hbb (by have := NB.out.size; omega)
  have N0' := TW.hide (blk_keep N0.out hbb)
  have NQ' := TW.hide (blk_keep NQ.out hbb)
  have QA' := TW.hide (QA.out.below hbb)
  have QB' := TW.hide (QB.out.below hbb)
  clear hbb NB N0 NQ QA QB
  have NB := NB'
  have N0 := N0'
  have NQ := NQ'
  have QA := QA'
  have QB := QB'
  clear NB' N0' NQ' QA' QB'
  go_wp2_with (first | (refine wpList_store_row (by rfl) 26 _ _ (by rfl) (w4.heap.size) (pcP P (.slice a3 S.length c3) (.slice b3 T.length d3)) (by rfl) (by rfl) 26 _ (heap_new w4 _) (info31 _ _ _) (pc_size Pm.zero _ _ _ _ _) (pc_one _ _ _ _ _ _ _) ?_))
  have nq := setRow_heap _ _ _ (pcP P (.slice a3 S.length c3) (.slice b3 T.length d3)) _ _ (heap_new w4 (.cells #[.int .i64 0, .int .i64 0, .int .i64 0, .int .i64 0, .int .u32 0, .int .u64 0, .int .u32 0, .int .i64 0, .int .i64 0, .slice none 0 0, .slice none 0 0] 26))
  have hbb := below_setRow (cs := (pcP P (.slice a3 S.length c3) (.slice b3 T.length d3))) ((Below.refl w4.heap.size w4).alloc (Nat.le_refl _) (.cells #[.int .i64 0, .int .i64 0, .int .i64 0, .int .i64 0, .int .u32 0, .int .u64 0, .int .u32 0, .int .i64 0, .int .i64 0, .slice none 0 0, .slice none 0 0] 26)) (g := w4.heap.size) (Nat.le_refl _)
  generalize (w4.alloc (.cells #[.int .i64 0, .int .i64 0, .int .i64 0, .int .i64 0, .int .u32 0, .int .u64 0, .int .u32 0, .int .i64 0, .int .i64 0, .slice none 0 0, .slice none 0 0] 26)).setRow w4.heap.size (pcP P (.slice a3 S.length c3) (.slice b3 T.length d3)) = X4 at nq hbb ⊢
  have NX := TW.hide nq
  clear nq
  have NB' : Hid (Below B w X4) := below_row NB.out hbb (by have := NB.out.size; omega)
  have N0' := TW.hide (blk_keep N0.out hbb)
  have NQ' := TW.hide (blk_keep NQ.out hbb)
  have QA' := TW.hide (QA.out.below hbb)
  have QB' := TW.hide (QB.out.below hbb)
  have XA' := TW.hide (XA.out.below hbb)
  have XB' := TW.hide (XB.out.below hbb)
  clear hbb NB N0 NQ QA QB XA XB
  have NB := NB'
  have N0 := N0'
  have NQ := NQ'
  have QA := QA'
  have QB := QB'
  have XA := XA'
  have XB := XB'
  clear NB' N0' NQ' QA' QB' XA' XB'
  generalize w4.heap.size = gx at *
  refine HK.out _ _ ?_
  clear HK KK
  refine wp_seq_k fun KK hK => ?_
  have HK := TW.hide hK
  clear hK
  go_wp2_with (first | (refine wpList_val (.agg (pcP P (.slice a2 S.length c2) (.slice b2 T.length d2))) (by rfl) (exec_load_row' 26 _ (by rfl) (gq) (by rfl) 26 (pcP P (.slice a2 S.length c2) (.slice b2 T.length d2)) (0, 0) _ NQ.out Try.underlying26 rfl (info31 _ _ _)) ?_) | (refine wpList_val (.agg (pcP P (.slice a3 S.length c3) (.slice b3 T.length d3))) (by rfl) (exec_load_row' 26 _ (by rfl) (gx) (by rfl) 26 (pcP P (.slice a3 S.length c3) (.slice b3 T.length d3)) (0, 0) _ NX.out Try.underlying26 rfl (info31 _ _ _)) ?_))
  refine (H15.out _ _ _ _ _ _ _ _ _ QA.out QB.out XA.out XB.out).mono ?_
  rintro e w5 ⟨rfl, hbb⟩
  have NB' : Hid (Below B w w5) := below_row NB.out hbb (by have := NB.out.size; omega)
  have N0' := TW.hide (blk_keep N0.out hbb)
  have NQ' := TW.hide (blk_keep NQ.out hbb)
  have QA' := TW.hide (QA.out.below hbb)
  have QB' := TW.hide (QB.out.below hbb)
  clear hbb NB N0 NQ QA QB
  have NB := NB'
  have N0 := N0'
  have NQ := NQ'
  have QA := QA'
  have QB := QB'
  clear NB' N0' NQ' QA' QB'
  clear NX XA XB
  go_wp2
  refine HK.out _ _ ?_
  clear HK KK
  go_wp2
  go_ret
  exact ⟨rfl, NB.out⟩
set_option maxRecDepth 100000 in
set_option maxHeartbeats 8000000 in
theorem twinsYes (kd EN : Int) (p P P2 : Pm) (sa ta : Option Addr) (sc tc : Nat) (s t S T S2 T2 L : List Int) (w : World)
    (H30 : Hid (∀ W, Calls Try.prog 24 #[] W fun e w' => e = .returned (.bool true) ∧ Below W.heap.size W w'))
    (HC : Hid (∀ W, Below w.heap.size w W → Calls Try.prog 10 #[.agg (pcP p (.slice sa s.length sc) (.slice ta t.length tc))] W fun e w' => ∃ a c b d, e = .returned (.agg (pcP p (.slice a s.length c) (.slice b t.length d))) ∧ Pa w' a c s ∧ Pa w' b d t ∧ Below W.heap.size W w'))
    (H31 : Hid (∀ a c b d W, Pa W a c s → Pa W b d t → Calls Try.prog 25 #[.int .i64 kd, .agg (pcP p (.slice a s.length c) (.slice b t.length d))] W fun e w' => ∃ a c b d, e = .returned (.tuple #[.agg (pcP P (.slice a S.length c) (.slice b T.length d)), .bool true, .int .i64 0]) ∧ Pa w' a c S ∧ Pa w' b d T ∧ Below W.heap.size W w'))
    (H32 : Hid (∀ W, Below w.heap.size w W → Calls Try.prog 26 #[.int .i64 kd, .agg (pcP p (.slice sa s.length sc) (.slice ta t.length tc))] W fun e w' => ∃ a c b d, e = .returned (.tuple #[.agg (pcP P (.slice a S.length c) (.slice b T.length d)), .bool true, .int .i64 0]) ∧ Pa w' a c S ∧ Pa w' b d T ∧ Below W.heap.size W w'))
    (H15 : Hid (∀ a c b d a' c' b' d' W, Pa W a c S → Pa W b d T → Pa W a' c' S → Pa W b' d' T → Calls Try.prog 14 #[.agg (pcP P (.slice a S.length c) (.slice b T.length d)), .agg (pcP P (.slice a' S.length c') (.slice b' T.length d'))] W fun e w' => e = .returned (.bool true) ∧ Below W.heap.size W w'))
    (H23 : Hid (∀ a c b d W, Pa W a c s → Pa W b d t → Calls Try.prog 17 #[.int .i64 kd, .agg (pcP p (.slice a s.length c) (.slice b t.length d))] W fun e w' => ∃ a c, e = .returned (.tuple #[.slice a L.length c, .int .i64 0]) ∧ Pa w' a c L ∧ Below W.heap.size W w'))
    (HCq : Hid (∀ a c b d W, Pa W a c S → Pa W b d T → Calls Try.prog 10 #[.agg (pcP P (.slice a S.length c) (.slice b T.length d))] W fun e w' => ∃ a c b d, e = .returned (.agg (pcP P (.slice a S.length c) (.slice b T.length d))) ∧ Pa w' a c S ∧ Pa w' b d T ∧ Below W.heap.size W w'))
    (H23q : Hid (∀ a c b d W, Pa W a c S → Pa W b d T → Calls Try.prog 17 #[.int .i64 kd, .agg (pcP P (.slice a S.length c) (.slice b T.length d))] W fun e w' => ∃ a c, e = .returned (.tuple #[.slice a L.length c, .int .i64 0]) ∧ Pa w' a c L ∧ Below W.heap.size W w'))
    (H31q : Hid (∀ a c b d W, Pa W a c S → Pa W b d T → Calls Try.prog 25 #[.int .i64 kd, .agg (pcP P (.slice a S.length c) (.slice b T.length d))] W fun e w' => ∃ a c b d, e = .returned (.tuple #[.agg (pcP P2 (.slice a S2.length c) (.slice b T2.length d)), .bool true, .int .i64 0]) ∧ Pa w' a c S2 ∧ Pa w' b d T2 ∧ Below W.heap.size W w'))
    (H20 : Hid (∀ W, Below w.heap.size w W → Calls Try.prog 13 #[.int .i64 kd, .agg (pcP p (.slice sa s.length sc) (.slice ta t.length tc))] W fun e w' => ∃ a c b d, e = .returned (.tuple #[.agg (pcP P2 (.slice a S2.length c) (.slice b T2.length d)), .int .i64 EN]) ∧ Pa w' a c S2 ∧ Pa w' b d T2 ∧ Below W.heap.size W w'))
    (H25 : Hid (∀ a c a' c' W, Pa W a c L → Pa W a' c' L → Calls Try.prog 19 #[.slice a L.length c, .slice a' L.length c'] W fun e w' => e = .returned (.bool true) ∧ ∃ q, w' = W.drewN q))
    (H15b : Hid (∀ a c b d a' c' b' d' W, Pa W a c S2 → Pa W b d T2 → Pa W a' c' S2 → Pa W b' d' T2 → Calls Try.prog 14 #[.agg (pcP P2 (.slice a S2.length c) (.slice b T2.length d)), .agg (pcP P2 (.slice a' S2.length c') (.slice b' T2.length d'))] W fun e w' => e = .returned (.bool true) ∧ Below W.heap.size W w')) (hxx : ((p.xof == 0) != (P.xof == 0)) = true) :
    Calls Try.prog 6 #[.int .i64 kd, .agg (pcP p (.slice sa s.length sc) (.slice ta t.length tc))] w fun e w' => e = .returned (.bool true) ∧ Below w.heap.size w w' := by
  have hEE : ((0 : Int) != 0) = false := rfl
  have h0E : ((0 : Int) == 0) = true := rfl
  have hbf : (true != true) = false := rfl
  have hb := ((Below.refl w.heap.size w).alloc (Nat.le_refl _) (.cells (pcP p (.slice sa s.length sc) (.slice ta t.length tc)) 26))
  have n0 := (heap_new w (.cells (pcP p (.slice sa s.length sc) (.slice ta t.length tc)) 26))
  go_enter Try.func6, Try.ntmps6
  refine wp_seq_k fun K hK => ?_
  have HK := TW.hide hK
  clear hK
  go_wp2
  refine HK.out _ _ ?_
  clear HK K
  change Code.wp _ _ _ _ (w.alloc (.cells (pcP p (.slice sa s.length sc) (.slice ta t.length tc)) 26))
  generalize hWW : w.alloc (.cells (pcP p (.slice sa s.length sc) (.slice ta t.length tc)) 26) = W at hb n0 ⊢
  have hW : W.heap.size = w.heap.size + 1 := by rw [← hWW]; simp
  clear hWW
  generalize hB : w.heap.size = B at *
  have N0 := TW.hide n0
  have NB := TW.hide hb
  clear n0 hb
  clear hW
  refine wp_seq_k fun KK hK => ?_
  have HK := TW.hide hK
  clear hK
  go_wp2_with fail
  refine (H30.out _).mono ?_
  rintro e w1 ⟨rfl, hbb⟩
  have NB' : Hid (Below B w w1) := below_row NB.out hbb (by have := NB.out.size; omega)
  have N0' := TW.hide (blk_keep N0.out hbb)
  clear hbb NB N0
  have NB := NB'
  have N0 := N0'
  clear NB' N0'
  go_wp2
  refine HK.out _ _ ?_
  clear HK KK
  refine wp_seq_k fun KK hK => ?_
  have HK := TW.hide hK
  clear hK
  go_wp2_with (refine wpList_load_row (by rfl) 26 _ (by rfl) (B) (by rfl) 26 (pcP p (.slice sa s.length sc) (.slice ta t.length tc)) (0, 0) _ N0.out Try.underlying26 rfl (info31 _ _ _) ?_)
  refine (HC.out _ NB.out).mono ?_
  rintro e w2 ⟨a1, c1, b1, d1, rfl, pa, pb, hbb⟩
  have PA := TW.hide pa
  have PB := TW.hide pb
  clear pa pb
  have NB' : Hid (Below B w w2) := below_row NB.out hbb (by have := NB.out.size; omega)
  have N0' := TW.hide (blk_keep N0.out hbb)
  clear hbb NB N0
  have NB := NB'
  have N0 := N0'
  clear NB' N0'
  go_wp2_with fail
  refine (H31.out _ _ _ _ _ PA.out PB.out).mono ?_
  rintro e w3 ⟨a2, c2, b2, d2, rfl, pa, pb, hbb⟩
  have QA := TW.hide pa
  have QB := TW.hide pb
  clear pa pb PA PB
  have NB' : Hid (Below B w w3) := below_row NB.out hbb (by have := NB.out.size; omega)
  have N0' := TW.hide (blk_keep N0.out hbb)
  clear hbb NB N0
  have NB := NB'
  have N0 := N0'
  clear NB' N0'
  go_wp2_with (first | (refine wpList_store_row (by rfl) 26 _ _ (by rfl) (w3.heap.size) (pcP P (.slice a2 S.length c2) (.slice b2 T.length d2)) (by rfl) (by rfl) 26 _ (heap_new w3 _) (info31 _ _ _) (pc_size Pm.zero _ _ _ _ _) (pc_one _ _ _ _ _ _ _) ?_))
  have nq := setRow_heap _ _ _ (pcP P (.slice a2 S.length c2) (.slice b2 T.length d2)) _ _ (heap_new w3 (.cells #[.int .i64 0, .int .i64 0, .int .i64 0, .int .i64 0, .int .u32 0, .int .u64 0, .int .u32 0, .int .i64 0, .int .i64 0, .slice none 0 0, .slice none 0 0] 26))
  have hbb := below_setRow (cs := (pcP P (.slice a2 S.length c2) (.slice b2 T.length d2))) ((Below.refl w3.heap.size w3).alloc (Nat.le_refl _) (.cells #[.int .i64 0, .int .i64 0, .int .i64 0, .int .i64 0, .int .u32 0, .int .u64 0, .int .u32 0, .int .i64 0, .int .i64 0, .slice none 0 0, .slice none 0 0] 26)) (g := w3.heap.size) (Nat.le_refl _)
  generalize (w3.alloc (.cells #[.int .i64 0, .int .i64 0, .int .i64 0, .int .i64 0, .int .u32 0, .int .u64 0, .int .u32 0, .int .i64 0, .int .i64 0, .slice none 0 0, .slice none 0 0] 26)).setRow w3.heap.size (pcP P (.slice a2 S.length c2) (.slice b2 T.length d2)) = X3 at nq hbb ⊢
  have NQ := TW.hide nq
  clear nq
  have NB' : Hid (Below B w X3) := below_row NB.out hbb (by have := NB.out.size; omega)
  have N0' := TW.hide (blk_keep N0.out hbb)
  have QA' := TW.hide (QA.out.below hbb)
  have QB' := TW.hide (QB.out.below hbb)
  clear hbb NB N0 QA QB
  have NB := NB'
  have N0 := N0'
  have QA := QA'
  have QB := QB'
  clear NB' N0' QA' QB'
  generalize w3.heap.size = gq at *
  refine HK.out _ _ ?_
  clear HK KK
  refine wp_seq_k fun KK hK => ?_
  have HK := TW.hide hK
  clear hK
  go_wp2_with (refine wpList_load_row (by rfl) 26 _ (by rfl) (B) (by rfl) 26 (pcP p (.slice sa s.length sc) (.slice ta t.length tc)) (0, 0) _ N0.out Try.underlying26 rfl (info31 _ _ _) ?_)
  refine (H32.out _ NB.out).mono ?_
  rintro e w4 ⟨a3, c3, b3, d3, rfl, pa, pb, hbb⟩
  have XA := TW.hide pa
  have XB := TW.hide pb
  clear pa pb
  have NB' : Hid (Below B w w4) := below_row NB.out hbb (by have := NB.out.size; omega)
  have N0' := TW.hide (blk_keep N0.out hbb)
  have NQ' := TW.hide (blk_keep NQ.out hbb)
  have QA' := TW.hide (QA.out.below hbb)
  have QB' := TW.hide (QB.out.below hbb)
  clear hbb NB N0 NQ QA QB
  have NB := NB'
  have N0 := N0'
  have NQ := NQ'
  have QA := QA'
  have QB := QB'
  clear NB' N0' NQ' QA' QB'
  go_wp2_with (first | (refine wpList_store_row (by rfl) 26 _ _ (by rfl) (w4.heap.size) (pcP P (.slice a3 S.length c3) (.slice b3 T.length d3)) (by rfl) (by rfl) 26 _ (heap_new w4 _) (info31 _ _ _) (pc_size Pm.zero _ _ _ _ _) (pc_one _ _ _ _ _ _ _) ?_))
  have nq := setRow_heap _ _ _ (pcP P (.slice a3 S.length c3) (.slice b3 T.length d3)) _ _ (heap_new w4 (.cells #[.int .i64 0, .int .i64 0, .int .i64 0, .int .i64 0, .int .u32 0, .int .u64 0, .int .u32 0, .int .i64 0, .int .i64 0, .slice none 0 0, .slice none 0 0] 26))
  have hbb := below_setRow (cs := (pcP P (.slice a3 S.length c3) (.slice b3 T.length d3))) ((Below.refl w4.heap.size w4).alloc (Nat.le_refl _) (.cells #[.int .i64 0, .int .i64 0, .int .i64 0, .int .i64 0, .int .u32 0, .int .u64 0, .int .u32 0, .int .i64 0, .int .i64 0, .slice none 0 0, .slice none 0 0] 26)) (g := w4.heap.size) (Nat.le_refl _)
  generalize (w4.alloc (.cells #[.int .i64 0, .int .i64 0, .int .i64 0, .int .i64 0, .int .u32 0, .int .u64 0, .int .u32 0, .int .i64 0, .int .i64 0, .slice none 0 0, .slice none 0 0] 26)).setRow w4.heap.size (pcP P (.slice a3 S.length c3) (.slice b3 T.length d3)) = X4 at nq hbb ⊢
  have NX := TW.hide nq
  clear nq
  have NB' : Hid (Below B w X4) := below_row NB.out hbb (by have := NB.out.size; omega)
  have N0' := TW.hide (blk_keep N0.out hbb)
  have NQ' := TW.hide (blk_keep NQ.out hbb)
  have QA' := TW.hide (QA.out.below hbb)
  have QB' := TW.hide (QB.out.below hbb)
  have XA' := TW.hide (XA.out.below hbb)
  have XB' := TW.hide (XB.out.below hbb)
  clear hbb NB N0 NQ QA QB XA XB
  have NB := NB'
  have N0 := N0'
  have NQ := NQ'
  have QA := QA'
  have QB := QB'
  have XA := XA'
  have XB := XB'
  clear NB' N0' NQ' QA' QB' XA' XB'
  generalize w4.heap.size = gx at *
  refine HK.out _ _ ?_
  clear HK KK
  refine wp_seq_k fun KK hK => ?_
  have HK := TW.hide hK
  clear hK
  go_wp2_with (first | (refine wpList_val (.agg (pcP P (.slice a2 S.length c2) (.slice b2 T.length d2))) (by rfl) (exec_load_row' 26 _ (by rfl) (gq) (by rfl) 26 (pcP P (.slice a2 S.length c2) (.slice b2 T.length d2)) (0, 0) _ NQ.out Try.underlying26 rfl (info31 _ _ _)) ?_) | (refine wpList_val (.agg (pcP P (.slice a3 S.length c3) (.slice b3 T.length d3))) (by rfl) (exec_load_row' 26 _ (by rfl) (gx) (by rfl) 26 (pcP P (.slice a3 S.length c3) (.slice b3 T.length d3)) (0, 0) _ NX.out Try.underlying26 rfl (info31 _ _ _)) ?_))
  refine (H15.out _ _ _ _ _ _ _ _ _ QA.out QB.out XA.out XB.out).mono ?_
  rintro e w5 ⟨rfl, hbb⟩
  have NB' : Hid (Below B w w5) := below_row NB.out hbb (by have := NB.out.size; omega)
  have N0' := TW.hide (blk_keep N0.out hbb)
  have NQ' := TW.hide (blk_keep NQ.out hbb)
  have QA' := TW.hide (QA.out.below hbb)
  have QB' := TW.hide (QB.out.below hbb)
  clear hbb NB N0 NQ QA QB
  have NB := NB'
  have N0 := N0'
  have NQ := NQ'
  have QA := QA'
  have QB := QB'
  clear NB' N0' NQ' QA' QB'
  clear NX XA XB
  go_wp2
  refine HK.out _ _ ?_
  clear HK KK
  refine wp_seq_k fun KK hK => ?_
  have HK := TW.hide hK
  clear hK
  go_wp2
  refine HK.out _ _ ?_
  clear HK KK
  refine wp_seq_k fun KK hK => ?_
  have HK := TW.hide hK
  clear hK
  go_wp2_with (refine wpList_load_row (by rfl) 26 _ (by rfl) (B) (by rfl) 26 (pcP p (.slice sa s.length sc) (.slice ta t.length tc)) (0, 0) _ N0.out Try.underlying26 rfl (info31 _ _ _) ?_)
  refine (HC.out _ NB.out).mono ?_
  rintro e w6 ⟨a4, c4, b4, d4, rfl, pa, pb, hbb⟩
  have PA := TW.hide pa
  have PB := TW.hide pb
  clear pa pb
  have NB' : Hid (Below B w w6) := below_row NB.out hbb (by have := NB.out.size; omega)
  have N0' := TW.hide (blk_keep N0.out hbb)
  have NQ' := TW.hide (blk_keep NQ.out hbb)
  have QA' := TW.hide (QA.out.below hbb)
  have QB' := TW.hide (QB.out.below hbb)
  clear hbb NB N0 NQ QA QB
  have NB := NB'
  have N0 := N0'
  have NQ := NQ'
  have QA := QA'
  have QB := QB'
  clear NB' N0' NQ' QA' QB'
  go_wp2_with fail
  refine (H23.out _ _ _ _ _ PA.out PB.out).mono ?_
  rintro e w7 ⟨ea, ec, rfl, pe, hbb⟩
  have PE := TW.hide pe
  clear pe PA PB
  have NB' : Hid (Below B w w7) := below_row NB.out hbb (by have := NB.out.size; omega)
  have N0' := TW.hide (blk_keep N0.out hbb)
  have NQ' := TW.hide (blk_keep NQ.out hbb)
  have QA' := TW.hide (QA.out.below hbb)
  have QB' := TW.hide (QB.out.below hbb)
  clear hbb NB N0 NQ QA QB
  have NB := NB'
  have N0 := N0'
  have NQ := NQ'
  have QA := QA'
  have QB := QB'
  clear NB' N0' NQ' QA' QB'
  go_wp2
  refine HK.out _ _ ?_
  clear HK KK
  refine wp_seq_k fun KK hK => ?_
  have HK := TW.hide hK
  clear hK
  go_wp2_with (refine wpList_load_row (by rfl) 26 _ (by rfl) (gq) (by rfl) 26 (pcP P (.slice a2 S.length c2) (.slice b2 T.length d2)) (0, 0) _ NQ.out Try.underlying26 rfl (info31 _ _ _) ?_)
  refine (HCq.out _ _ _ _ _ QA.out QB.out).mono ?_
  rintro e w8 ⟨a4, c4, b4, d4, rfl, pa, pb, hbb⟩
  have PA := TW.hide pa
  have PB := TW.hide pb
  clear pa pb
  have NB' : Hid (Below B w w8) := below_row NB.out hbb (by have := NB.out.size; omega)
  have N0' := TW.hide (blk_keep N0.out hbb)
  have NQ' := TW.hide (blk_keep NQ.out hbb)
  have QA' := TW.hide (QA.out.below hbb)
  have QB' := TW.hide (QB.out.below hbb)
  have PE' := TW.hide (PE.out.below hbb)
  clear hbb NB N0 NQ QA QB PE
  have NB := NB'
  have N0 := N0'
  have NQ := NQ'
  have QA := QA'
  have QB := QB'
  have PE := PE'
  clear NB' N0' NQ' QA' QB' PE'
  go_wp2_with fail
  refine (H23q.out _ _ _ _ _ PA.out PB.out).mono ?_
  rintro e w9 ⟨fa_, fc, rfl, pe, hbb⟩
  have PF := TW.hide pe
  clear pe PA PB
  have NB' : Hid (Below B w w9) := below_row NB.out hbb (by have := NB.out.size; omega)
  have N0' := TW.hide (blk_keep N0.out hbb)
  have NQ' := TW.hide (blk_keep NQ.out hbb)
  have QA' := TW.hide (QA.out.below hbb)
  have QB' := TW.hide (QB.out.below hbb)
  have PE' := TW.hide (PE.out.below hbb)
  clear hbb NB N0 NQ QA QB PE
  have NB := NB'
  have N0 := N0'
  have NQ := NQ'
  have QA := QA'
  have QB := QB'
  have PE := PE'
  clear NB' N0' NQ' QA' QB' PE'
  go_wp2
  refine HK.out _ _ ?_
  clear HK KK
  refine wp_seq_k fun KK hK => ?_
  have HK := TW.hide hK
  clear hK
  go_wp2_with (refine wpList_load_row (by rfl) 26 _ (by rfl) (gq) (by rfl) 26 (pcP P (.slice a2 S.length c2) (.slice b2 T.length d2)) (0, 0) _ NQ.out Try.underlying26 rfl (info31 _ _ _) ?_)
  refine (HCq.out _ _ _ _ _ QA.out QB.out).mono ?_
  rintro e w10 ⟨a4, c4, b4, d4, rfl, pa, pb, hbb⟩
  have PA := TW.hide pa
  have PB := TW.hide pb
  clear pa pb
  have NB' : Hid (Below B w w10) := below_row NB.out hbb (by have := NB.out.size; omega)
  have N0' := TW.hide (blk_keep N0.out hbb)
  have NQ' := TW.hide (blk_keep NQ.out hbb)
  have PE' := TW.hide (PE.out.below hbb)
  have PF' := TW.hide (PF.out.below hbb)
  clear hbb NB N0 NQ PE PF
  have NB := NB'
  have N0 := N0'
  have NQ := NQ'
  have PE := PE'
  have PF := PF'
  clear NB' N0' NQ' PE' PF'
  go_wp2_with fail
  refine (H31q.out _ _ _ _ _ PA.out PB.out).mono ?_
  rintro e w11 ⟨a6, c6, b6, d6, rfl, pa, pb, hbb⟩
  have KA := TW.hide pa
  have KB := TW.hide pb
  clear pa pb PA PB
  have NB' : Hid (Below B w w11) := below_row NB.out hbb (by have := NB.out.size; omega)
  have N0' := TW.hide (blk_keep N0.out hbb)
  have NQ' := TW.hide (blk_keep NQ.out hbb)
  have PE' := TW.hide (PE.out.below hbb)
  have PF' := TW.hide (PF.out.below hbb)
  clear hbb NB N0 NQ PE PF
  have NB := NB'
  have N0 := N0'
  have NQ := NQ'
  have PE := PE'
  have PF := PF'
  clear NB' N0' NQ' PE' PF'
  go_wp2_with (first | (refine wpList_store_row (by rfl) 26 _ _ (by rfl) (w11.heap.size) (pcP P2 (.slice a6 S2.length c6) (.slice b6 T2.length d6)) (by rfl) (by rfl) 26 _ (heap_new w11 _) (info31 _ _ _) (pc_size Pm.zero _ _ _ _ _) (pc_one _ _ _ _ _ _ _) ?_))
  have nq := setRow_heap _ _ _ (pcP P2 (.slice a6 S2.length c6) (.slice b6 T2.length d6)) _ _ (heap_new w11 (.cells #[.int .i64 0, .int .i64 0, .int .i64 0, .int .i64 0, .int .u32 0, .int .u64 0, .int .u32 0, .int .i64 0, .int .i64 0, .slice none 0 0, .slice none 0 0] 26))
  have hbb := below_setRow (cs := (pcP P2 (.slice a6 S2.length c6) (.slice b6 T2.length d6))) ((Below.refl w11.heap.size w11).alloc (Nat.le_refl _) (.cells #[.int .i64 0, .int .i64 0, .int .i64 0, .int .i64 0, .int .u32 0, .int .u64 0, .int .u32 0, .int .i64 0, .int .i64 0, .slice none 0 0, .slice none 0 0] 26)) (g := w11.heap.size) (Nat.le_refl _)
  generalize (w11.alloc (.cells #[.int .i64 0, .int .i64 0, .int .i64 0, .int .i64 0, .int .u32 0, .int .u64 0, .int .u32 0, .int .i64 0, .int .i64 0, .slice none 0 0, .slice none 0 0] 26)).setRow w11.heap.size (pcP P2 (.slice a6 S2.length c6) (.slice b6 T2.length d6)) = X11 at nq hbb ⊢
  have NK := TW.hide nq
  clear nq
  have NB' : Hid (Below B w X11) := below_row NB.out hbb (by have := NB.out.size; omega)
  have N0' := TW.hide (blk_keep N0.out hbb)
  have NQ' := TW.hide (blk_keep NQ.out hbb)
  have PE' := TW.hide (PE.out.below hbb)
  have PF' := TW.hide (PF.out.below hbb)
  have KA' := TW.hide (KA.out.below hbb)
  have KB' := TW.hide (KB.out.below hbb)
  clear hbb NB N0 NQ PE PF KA KB
  have NB := NB'
  have N0 := N0'
  have NQ := NQ'
  have PE := PE'
  have PF := PF'
  have KA := KA'
  have KB := KB'
  clear NB' N0' NQ' PE' PF' KA' KB'
  generalize w11.heap.size = gk at *
  refine HK.out _ _ ?_
  clear HK KK
  refine wp_seq_k fun KK hK => ?_
  have HK := TW.hide hK
  clear hK
  go_wp2_with (refine wpList_load_row (by rfl) 26 _ (by rfl) (B) (by rfl) 26 (pcP p (.slice sa s.length sc) (.slice ta t.length tc)) (0, 0) _ N0.out Try.underlying26 rfl (info31 _ _ _) ?_)
  refine (H20.out _ NB.out).mono ?_
  rintro e w12 ⟨a7, c7, b7, d7, rfl, pa, pb, hbb⟩
  have MA := TW.hide pa
  have MBB := TW.hide pb
  clear pa pb
  have NB' : Hid (Below B w w12) := below_row NB.out hbb (by have := NB.out.size; omega)
  have N0' := TW.hide (blk_keep N0.out hbb)
  have NQ' := TW.hide (blk_keep NQ.out hbb)
  have NK' := TW.hide (blk_keep NK.out hbb)
  have PE' := TW.hide (PE.out.below hbb)
  have PF' := TW.hide (PF.out.below hbb)
  have KA' := TW.hide (KA.out.below hbb)
  have KB' := TW.hide (KB.out.below hbb)
  clear hbb NB N0 NQ NK PE PF KA KB
  have NB := NB'
  have N0 := N0'
  have NQ := NQ'
  have NK := NK'
  have PE := PE'
  have PF := PF'
  have KA := KA'
  have KB := KB'
  clear NB' N0' NQ' NK' PE' PF' KA' KB'
  go_wp2_with (first | (refine wpList_store_row (by rfl) 26 _ _ (by rfl) (w12.heap.size) (pcP P2 (.slice a7 S2.length c7) (.slice b7 T2.length d7)) (by rfl) (by rfl) 26 _ (heap_new w12 _) (info31 _ _ _) (pc_size Pm.zero _ _ _ _ _) (pc_one _ _ _ _ _ _ _) ?_))
  have nq := setRow_heap _ _ _ (pcP P2 (.slice a7 S2.length c7) (.slice b7 T2.length d7)) _ _ (heap_new w12 (.cells #[.int .i64 0, .int .i64 0, .int .i64 0, .int .i64 0, .int .u32 0, .int .u64 0, .int .u32 0, .int .i64 0, .int .i64 0, .slice none 0 0, .slice none 0 0] 26))
  have hbb := below_setRow (cs := (pcP P2 (.slice a7 S2.length c7) (.slice b7 T2.length d7))) ((Below.refl w12.heap.size w12).alloc (Nat.le_refl _) (.cells #[.int .i64 0, .int .i64 0, .int .i64 0, .int .i64 0, .int .u32 0, .int .u64 0, .int .u32 0, .int .i64 0, .int .i64 0, .slice none 0 0, .slice none 0 0] 26)) (g := w12.heap.size) (Nat.le_refl _)
  generalize (w12.alloc (.cells #[.int .i64 0, .int .i64 0, .int .i64 0, .int .i64 0, .int .u32 0, .int .u64 0, .int .u32 0, .int .i64 0, .int .i64 0, .slice none 0 0, .slice none 0 0] 26)).setRow w12.heap.size (pcP P2 (.slice a7 S2.length c7) (.slice b7 T2.length d7)) = X12 at nq hbb ⊢
  have NN := TW.hide nq
  clear nq
  have NB' : Hid (Below B w X12) := below_row NB.out hbb (by have := NB.out.size; omega)
  have N0' := TW.hide (blk_keep N0.out hbb)
  have NQ' := TW.hide (blk_keep NQ.out hbb)
  have NK' := TW.hide (blk_keep NK.out hbb)
  have PE' := TW.hide (PE.out.below hbb)
  have PF' := TW.hide (PF.out.below hbb)
  have KA' := TW.hide (KA.out.below hbb)
  have KB' := TW.hide (KB.out.below hbb)
  have MA' := TW.hide (MA.out.below hbb)
  have MBB' := TW.hide (MBB.out.below hbb)
  clear hbb NB N0 NQ NK PE PF KA KB MA MBB
  have NB := NB'
  have N0 := N0'
  have NQ := NQ'
  have NK := NK'
  have PE := PE'
  have PF := PF'
  have KA := KA'
  have KB := KB'
  have MA := MA'
  have MBB := MBB'
  clear NB' N0' NQ' NK' PE' PF' KA' KB' MA' MBB'
  generalize w12.heap.size = gn at *
  refine HK.out _ _ ?_
  clear HK KK
  go_wp2_with fail
  refine (H25.out _ _ _ _ _ PE.out PF.out).mono ?_
  rintro e w13 ⟨rfl, qq, rfl⟩
  have hbb : Below X12.heap.size X12 (X12.drewN qq) := below_drewN (Below.refl _ _) _
  have NB' : Hid (Below B w (X12.drewN qq)) := below_row NB.out hbb (by have := NB.out.size; omega)
  have N0' := TW.hide (blk_keep N0.out hbb)
  have NQ' := TW.hide (blk_keep NQ.out hbb)
  have NK' := TW.hide (blk_keep NK.out hbb)
  have NN' := TW.hide (blk_keep NN.out hbb)
  have KA' := TW.hide (KA.out.below hbb)
  have KB' := TW.hide (KB.out.below hbb)
  have MA' := TW.hide (MA.out.below hbb)
  have MBB' := TW.hide (MBB.out.below hbb)
  clear hbb NB N0 NQ NK NN KA KB MA MBB
  have NB := NB'
  have N0 := N0'
  have NQ := NQ'
  have NK := NK'
  have NN := NN'
  have KA := KA'
  have KB := KB'
  have MA := MA'
  have MBB := MBB'
  clear NB' N0' NQ' NK' NN' KA' KB' MA' MBB'
  generalize X12.drewN qq = Y13 at *
  have cx : Y13.cell? ⟨B, 6, none⟩ = some (.int .u32 p.xof) := blk_cell N0.out rfl
  have cy : Y13.cell? ⟨gq, 6, none⟩ = some (.int .u32 P.xof) := blk_cell NQ.out rfl
  generalize hx1 : (p.xof == 0) = x1 at *
  generalize hx2 : (P.xof == 0) = x2 at *
  have hcc : (x1 = true ∧ x2 = false) ∨ (x1 = false ∧ x2 = true) := by cases x1 <;> cases x2 <;> simp at hxx ⊢
  clear hxx
  rcases hcc with ⟨rfl, rfl⟩ | ⟨rfl, rfl⟩
  all_goals
    have hb1 : (true != false) = true := rfl
    have hb2 : (false != true) = true := rfl
    go_wp2_with (first | (refine wpList_val (.agg (pcP P2 (.slice a6 S2.length c6) (.slice b6 T2.length d6))) (by rfl) (exec_load_row' 26 _ (by rfl) (gk) (by rfl) 26 (pcP P2 (.slice a6 S2.length c6) (.slice b6 T2.length d6)) (0, 0) _ NK.out Try.underlying26 rfl (info31 _ _ _)) ?_) | (refine wpList_val (.agg (pcP P2 (.slice a7 S2.length c7) (.slice b7 T2.length d7))) (by rfl) (exec_load_row' 26 _ (by rfl) (gn) (by rfl) 26 (pcP P2 (.slice a7 S2.length c7) (.slice b7 T2.length d7)) (0, 0) _ NN.out Try.underlying26 rfl (info31 _ _ _)) ?_))
    refine (H15b.out _ _ _ _ _ _ _ _ _ KA.out KB.out MA.out MBB.out).mono ?_
    rintro e w14 ⟨rfl, hbb⟩
    have NB2 : Hid (Below B w w14) := below_row NB.out hbb (by have := NB.out.size; omega)
    clear hbb
    go_wp2
    go_ret
    exact ⟨rfl, NB2.out⟩
end LW
end Go.Proofs.Ytpcahieaakjaaaa
