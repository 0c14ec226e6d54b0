/-
  What the search gives for a message that lies in a tree.
-/
import Derived.Test.YtcpegipojkbcoaaFind
import Derived.Test.YtcpegipojkbcoaaOrder
import Derived.Deep.MidRow
namespace Go.Proofs.Ytcpegipojkbcoaa
open Go.RowKit
set_option linter.unusedVariables false
set_option linter.unusedSimpArgs false
namespace LW
open Words
/-- The numbers of where a node stands. -/
def fdX (n : Nat) (R : List Nat) (r : Int) (at_ : Nat) : Int × Nat × Nat × Nat := if Has R r at_ then (r, at_, R.getD r.toNat 0, blw n R r) else (0, 0, 0, 0)
def fdE (R : List Nat) (r : Int) (at_ : Nat) : Int := if Has R r at_ then 0 else 6
theorem fdR_eq (n : Nat) (R : List Nat) (r : Int) (at_ : Nat) : fdR n R r at_ = .tuple #[.agg (stC (fdX n R r at_).1 (fdX n R r at_).2.1 (fdX n R r at_).2.2.1 (fdX n R r at_).2.2.2), .int .i64 (fdE R r at_)] := by
  unfold fdR fdX fdE
  split <;> rfl
theorem blk_other' {w : World} {g h : Nat} {cs : Array Value} {o : Obj} (hh : w.heap[h]? = some o) (hne : h ≠ g) : (w.setRow g cs).heap[h]? = some o := by
  rw [setRow_other _ _ _ _ hne]
  exact hh
theorem three (w : World) (o0 o1 o2 : Obj) : ∃ W, ((w.alloc o0).alloc o1).alloc o2 = W ∧ W.heap[w.heap.size]? = some o0 ∧ W.heap[w.heap.size + 1]? = some o1 ∧ W.heap[w.heap.size + 2]? = some o2 ∧ W.heap.size = w.heap.size + 3 ∧ Below w.heap.size w W := by
  refine ⟨_, rfl, ?_, ?_, ?_, by simp, ?_⟩
  · exact blk_alloc (blk_alloc (heap_alloc_new w o0))
  · have := heap_alloc_new (w.alloc o0) o1
    rw [World.size_alloc] at this
    exact blk_alloc this
  · have := heap_alloc_new ((w.alloc o0).alloc o1) o2
    simp only [World.size_alloc] at this
    exact this
  · exact (((Below.refl _ w).alloc (Nat.le_refl _) _).alloc (by simp) _).alloc (by simp; omega) _
theorem results_two_tmp {fn : Func} {p q s : Tmp} {ty tz : TypeId} {P : Program} (h : fn.results = #[.cell p ty, .cell q tz, .tmp s]) (tmps : Array Value) (w : World) (g g2 : Nat) (cs cs2 : Array Value) (v : Value)
    (hp : tmps.getD p undef = .pointer (some ⟨g, 0, none⟩)) (hq : tmps.getD q undef = .pointer (some ⟨g2, 0, none⟩)) (hs : tmps.getD s undef = v) (h1 : Sem.run P (loadVar ty ⟨g, 0, none⟩) w = .ok (.agg cs) w) (h2 : Sem.run P (loadVar tz ⟨g2, 0, none⟩) w = .ok (.agg cs2) w) :
    (results fn tmps).run P w = .ok (.tuple #[.agg cs, .agg cs2, v]) w := by
  have hp' : tmps[p]?.getD undef = .pointer (some ⟨g, 0, none⟩) := by simpa using hp
  have hq' : tmps[q]?.getD undef = .pointer (some ⟨g2, 0, none⟩) := by simpa using hq
  have hs' : tmps[s]?.getD undef = v := by simpa using hs
  simp [results, h, hp', hq', hs', asAddr, h1, h2]
set_option maxRecDepth 100000 in
set_option maxHeartbeats 2000000 in
theorem laidE (T : Tr) (hT : 0 ≤ T.lf ∧ T.lf < 4294967296) (n : Nat) (hn : n < 18446744073709551616) (hE : lvE T n ≠ 0) (r : Int) (at_ : Nat) (w : World) : Calls Try.prog 48 #[.agg (trC T), .int .u64 n, .int .i64 r, .int .u64 at_] w fun e w' => e = .returned (.tuple #[.agg (lyC T0 0 0), .agg (stC 0 0 0 0), .int .i64 (lvE T n)]) ∧ Below w.heap.size w w' := by
  have HL := TW.hide (fun W => lay T hT n hn W)
  unfold lyR at HL
  rw [if_neg hE, ly0] at HL
  rw [ly0]
  unfold stC
  generalize lvE T n = v at *
  unfold trC at *
  obtain ⟨W3, hW3, n0, n1, n2, sz3, hb3⟩ := three w (.cells #[.int .i64 T.k, .int .i64 T.d, .int .i64 T.f, .int .i64 T.dp, .int .u32 T.lf, .int .i64 T.inn, .slice T.ka T.kl T.kc, .slice T.sa T.sl T.sc, .slice T.pa T.pl T.pc] 26) (.cells #[.int .i64 0, .int .i64 0, .int .i64 0, .int .i64 0, .int .u32 0, .int .i64 0, .slice none 0 0, .slice none 0 0, .slice none 0 0, .int .u64 0, .int .u64 0] 98) (.cells #[.int .i64 0, .int .u64 0, .int .u64 0, .int .u64 0] 100)
  have HW3 := TW.hide hW3
  clear hW3
  go_enter Try.func48, Try.ntmps48
  refine wp_seq_k fun K hK => ?_
  have HK := TW.hide hK
  clear hK
  go_wp2_with fail
  rw [HW3.out]
  refine HK.out _ _ ?_
  clear HK K
  clear HW3
  simp only [Nat.add_assoc, Nat.reduceAdd]
  generalize hB : w.heap.size = B at *
  have HBB := TW.hide hB
  clear hB
  obtain ⟨c0, c1, c2, c3, c4, c5, c6, c7, c8⟩ := cells9 n0
  have N0 := TW.hide n0
  have N1 := TW.hide n1
  have N2 := TW.hide n2
  have B0 := TW.hide hb3
  have S0 := TW.hide sz3
  clear n0 n1 n2 hb3 sz3
  refine wp_seq_k fun K hK => ?_
  have HK := TW.hide hK
  clear hK
  go_wp2_with fail
  refine (HL.out _).mono ?_
  rintro e1 w1 ⟨rfl, hb⟩
  clear c0 c1 c2 c3 c4 c5 c6 c7 c8
  have N0 := TW.hide (blk_keep N0.out hb)
  have N1 := TW.hide (blk_keep N1.out hb)
  have N2 := TW.hide (blk_keep N2.out hb)
  have B1 : Hid (Below B w w1) := B0.out.trans (hb.mono (by have := B0.out.size; have := HBB.out; omega))
  clear B0 hb
  go_wp2
  refine HK.out _ _ ?_
  clear HK K
  have N0 := TW.hide (blk_alloc (o' := .cells #[.int .i64 0, .int .i64 0, .int .i64 0, .int .i64 0, .int .u32 0, .int .i64 0, .slice none 0 0, .slice none 0 0, .slice none 0 0, .int .u64 0, .int .u64 0] 98) N0.out)
  have N1 := TW.hide (blk_alloc (o' := .cells #[.int .i64 0, .int .i64 0, .int .i64 0, .int .i64 0, .int .u32 0, .int .i64 0, .slice none 0 0, .slice none 0 0, .slice none 0 0, .int .u64 0, .int .u64 0] 98) N1.out)
  have N2 := TW.hide (blk_alloc (o' := .cells #[.int .i64 0, .int .i64 0, .int .i64 0, .int .i64 0, .int .u32 0, .int .i64 0, .slice none 0 0, .slice none 0 0, .slice none 0 0, .int .u64 0, .int .u64 0] 98) N2.out)
  have B2 : Hid (Below B w (w1.alloc (.cells #[.int .i64 0, .int .i64 0, .int .i64 0, .int .i64 0, .int .u32 0, .int .i64 0, .slice none 0 0, .slice none 0 0, .slice none 0 0, .int .u64 0, .int .u64 0] 98))) := B1.out.alloc (by have := B1.out.size; have := HBB.out; omega) (.cells #[.int .i64 0, .int .i64 0, .int .i64 0, .int .i64 0, .int .u32 0, .int .i64 0, .slice none 0 0, .slice none 0 0, .slice none 0 0, .int .u64 0, .int .u64 0] 98)
  have G2 := TW.hide (heap_alloc_new w1 (.cells #[.int .i64 0, .int .i64 0, .int .i64 0, .int .i64 0, .int .u32 0, .int .i64 0, .slice none 0 0, .slice none 0 0, .slice none 0 0, .int .u64 0, .int .u64 0] 98))
  clear B1
  generalize w1.alloc _ = V at *
  generalize hg2 : w1.heap.size = g2 at *
  have BN := TW.hide (show B ≤ B + 1 by omega)
  go_wp2_with (first | (refine wpList_store_row (by rfl) 98 _ _ (by rfl) (B + 1) #[.int .i64 0, .int .i64 0, .int .i64 0, .int .i64 0, .int .u32 0, .int .i64 0, .slice none 0 0, .slice none 0 0, .slice none 0 0, .int .u64 0, .int .u64 0] (by rfl) (by rfl) 98 _ N1.out (by kernel_rfl) (by rfl) (by simp [Value.oneCell']) ?_) | (refine wpList_store_row (by rfl) 100 _ _ (by rfl) (B + 2) #[.int .i64 0, .int .u64 0, .int .u64 0, .int .u64 0] (by rfl) (by rfl) 100 _ (blk_other' N2.out (show B + 2 ≠ B + 1 by omega)) (by kernel_rfl) (by rfl) (by simp [Value.oneCell']) ?_))
  refine bodyPost_ret (results_two_tmp (P := Try.prog) Try.results48 _ _ (B + 1) (B + 2) #[.int .i64 0, .int .i64 0, .int .i64 0, .int .i64 0, .int .u32 0, .int .i64 0, .slice none 0 0, .slice none 0 0, .slice none 0 0, .int .u64 0, .int .u64 0] #[.int .i64 0, .int .u64 0, .int .u64 0, .int .u64 0] _ (by rfl) (by rfl) (by rfl) (run_loadVar_row _ (B + 1) 98 98 _ (0, 0) _ (blk_other' (setRow_heap _ _ _ _ _ _ N1.out) (show B + 1 ≠ B + 2 by omega)) Try.underlying98 rfl (by kernel_rfl)) (run_loadVar_row _ (B + 2) 100 100 _ (0, 0) _ (setRow_heap _ _ _ _ _ _ (blk_other' N2.out (show B + 2 ≠ B + 1 by omega))) Try.underlying100 rfl (by kernel_rfl))) rfl ?_
  exact ⟨rfl, below_setRow (below_setRow B2.out (by omega)) (by omega)⟩
end LW
end Go.Proofs.Ytcpegipojkbcoaa
