/-
  node.New at the parameters of a stream of Big whose length is not known, without a key.
-/
import Derived.Test.YtplpplbmajiclabGreatNewStream
namespace Go.Proofs.YtplpplbmajiclabGreat
open Go.RowKit
set_option linter.unusedVariables false
set_option linter.unusedSimpArgs false
namespace LW
open Words
set_option maxRecDepth 100000 in
set_option maxHeartbeats 2000000 in
theorem hasherB (gz : Nat) (zs iv : List Int) (w : World) (hz : Byt zs) (hr : w.heap[gz]? = some (.cells (vs zs).toArray 5 (0, 0))) (hl : zs.length = 64) (hiv : iv.length = 8) (ti : w.heap[2]? = some (.cells (K .u64 iv) 102 (0, 0))) :
    Calls Tryz.prog 35 #[.int .i64 1, .slice (some ⟨gz, 0, none⟩) 64 64, .slice none 0 0] w fun e w' => ∃ v : Value, e = .returned (.iface 104 v) ∧ Below w.heap.size w w' := by
  have HS := TW.hide (newS gz zs iv w hz hr hl hiv ti)
  clear hz hr hl hiv ti
  go_enter Tryz.func35, Tryz.ntmps35
  go_wp2_with fail
  refine HS.out.mono ?_
  rintro e w1 ⟨cs, rfl, hb⟩
  have HB := TW.hide hb
  clear hb
  go_wp2
  go_ret
  exact ⟨_, rfl, HB.out⟩
def p0 : Pm := ⟨64, 0, 1, 1, 0, 0, 4294967295, 0, 0⟩
theorem p0_ok : p0.Ok := by constructor <;> decide
theorem p0_ck : p0.ck 1 0 0 = 0 := by decide
theorem fits0 (w : World) : Calls Tryz.prog 34 #[.slice none 0 0, .int .i64 0] w fun e w' => e = .returned (.bool true) ∧ w = w' := by
  go_enter Tryz.func34, Tryz.ntmps34
  go_wp2
  go_ret
  exact ⟨rfl, rfl⟩
set_option maxRecDepth 100000 in
set_option maxHeartbeats 2000000 in
theorem nodeNew (iv : List Int) (w : World) (hiv : iv.length = 8) (ti : w.heap[2]? = some (.cells (K .u64 iv) 102 (0, 0))) :
    Calls Tryz.prog 24 #[.int .i64 1, .agg (pcP p0 (.slice none 0 0) (.slice none 0 0)), .slice none 0 0] w fun e w' => ∃ g : Nat, e = .returned (.tuple #[.pointer (some ⟨g, 0, none⟩), .int .i64 0]) ∧ Below w.heap.size w w' := by
  have HE : Hid (∀ W : World, Calls Tryz.prog 33 #[.int .i64 1, .agg (pcP p0 (.slice none 0 0) (.slice none 0 0))] W fun e w' => ∃ g zs, zs.length = 64 ∧ Byt zs ∧ e = .returned (.tuple #[.slice (some ⟨g, 0, none⟩) 64 64, .int .i64 0]) ∧ w'.heap[g]? = some (.cells (vs zs).toArray 5 (0, 0)) ∧ Below W.heap.size W w') := fun W => by
    have hl := enL_length 1 p0 [] [] p0_ck
    refine (encOk 1 p0 p0_ok none none 0 0 [] [] W p0_ck (nil_Pa W).toPb (nil_Pa W).toPb).mono ?_
    rintro e w' ⟨g, rfl, hg, hh, hb⟩
    exact ⟨g, _, hl, enL_byt 1 p0 [] [] (nil_Pa W).byt (nil_Pa W).byt, by rw [hl]; rfl, hh, hb⟩
  have b0 := ((Below.refl w.heap.size w).alloc (Nat.le_refl _) (.cells (pcP p0 (.slice none 0 0) (.slice none 0 0)) 56))
  have n0 := heap_alloc_new w (.cells (pcP p0 (.slice none 0 0) (.slice none 0 0)) 56)
  have t0 := blk_keep ti b0
  go_enter Tryz.func24, Tryz.ntmps24
  refine wp_seq_k fun K hK => ?_
  have HK := TW.hide hK
  clear hK
  go_wp2
  refine HK.out _ _ ?_
  clear HK K
  change Code.wp _ _ _ _ (w.alloc (.cells (pcP p0 (.slice none 0 0) (.slice none 0 0)) 56))
  generalize w.alloc (.cells (pcP p0 (.slice none 0 0) (.slice none 0 0)) 56) = W at *
  generalize hB : w.heap.size = B at *
  have N0 := TW.hide n0
  have B0 := TW.hide b0
  have T0 := TW.hide t0
  clear n0 b0 t0 ti
  go_wp2_with (refine wpList_load_row (by rfl) 56 _ (by rfl) B (by rfl) 56 (pcP p0 (.slice none 0 0) (.slice none 0 0)) (0, 0) _ N0.out Tryz.underlying56 rfl (info31 _ _ _) ?_)
  refine (HE.out _).mono ?_
  rintro e w1 ⟨g, zs, hl, hz, rfl, hg, hb⟩
  have N1 := TW.hide (blk_keep N0.out hb)
  have T1 := TW.hide (blk_keep T0.out hb)
  have B1 : Hid (Below B w w1) := below_row B0.out hb (by have := blk_lt N0.out; omega)
  have HH := TW.hide (hasherB g zs iv w1 hz hg hl hiv T1.out)
  have HF := TW.hide (fun W => fits0 W)
  clear hb hz hg hl N0 B0 T0
  have c1 : w1.cell? ⟨B, 1, none⟩ = some (.int .i64 0) := blk_cell N1.out rfl
  go_wp2_with fail
  refine (HF.out _).mono ?_
  rintro e w2 ⟨rfl, rfl⟩
  go_wp2_with fail
  refine HH.out.mono ?_
  rintro e w2 ⟨v, rfl, hb⟩
  have B2 : Hid (Below B w w2) := below_row B1.out hb (by have := blk_lt N1.out; omega)
  clear hb
  go_wp2
  go_ret2
  exact ⟨_, rfl, B2.out.alloc (by have := B2.out.size; omega) _⟩
end LW
end Go.Proofs.YtplpplbmajiclabGreat
