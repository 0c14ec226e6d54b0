/-
  What the cells of a fresh hasher are; it has no key.
-/
import Derived.Test.YtplpplbmajiclabGreatNewS
namespace Go.Proofs.YtplpplbmajiclabGreat
open Go.RowKit
set_option linter.unusedVariables false
set_option linter.unusedSimpArgs false
namespace LW
open Words
def sC (b k : ByteArray) (l : List Int) : Array Value := #[.iface 106 (.agg #[]), .string b, .string k, .bool false] ++ K .u64 l ++ #[.int .u64 0, .int .u64 0] ++ K .u8 (List.replicate 128 0) ++ #[.int .i64 0]
set_option maxRecDepth 100000 in
theorem buildS (b k : ByteArray) (l0 l1 l2 l3 l4 l5 l6 l7 : Int) (w : World) : (Instr.build 104 #[(0, .iface 106 (.agg #[])), (1, .string b), (2, .string k), (4, .agg (K .u64 [l0, l1, l2, l3, l4, l5, l6, l7]))]).run Tryz.prog w = .ok (.agg (sC b k [l0, l1, l2, l3, l4, l5, l6, l7])) w := by kernel_rfl
theorem sC_one (b k : ByteArray) (l0 l1 l2 l3 l4 l5 l6 l7 : Int) : (sC b k [l0, l1, l2, l3, l4, l5, l6, l7]).all (·.oneCell') = true := by kernel_rfl
theorem sC_info (b k : ByteArray) (l0 l1 l2 l3 l4 l5 l6 l7 : Int) : (Tryz.prog.info? 104).map (·.size) = some (sC b k [l0, l1, l2, l3, l4, l5, l6, l7]).size := by kernel_rfl
theorem sC_zero (b k : ByteArray) (l0 l1 l2 l3 l4 l5 l6 l7 : Int) : Tryz.zeroCells104.size = (sC b k [l0, l1, l2, l3, l4, l5, l6, l7]).size := by kernel_rfl
set_option maxRecDepth 100000 in
theorem keyed (cs : Array Value) (w : World) (hc : cs[2]? = some (.string .empty)) (hi : (Tryz.prog.info? 104).map (·.size) = some cs.size) :
    Calls Tryz.prog 53 #[.agg cs] w fun e w' => e = .returned (.bool false) ∧ Below w.heap.size w w' := by
  have b0 := ((Below.refl w.heap.size w).alloc (Nat.le_refl _) (.cells cs 104))
  have n0 := heap_alloc_new w (.cells cs 104)
  go_enter Tryz.func53, Tryz.ntmps53
  refine wp_seq_k fun K hK => ?_
  have HK := TW.hide hK
  clear hK
  go_wp2
  refine HK.out _ _ ?_
  clear HK K
  generalize w.alloc (.cells cs 104) = W at *
  generalize w.heap.size = B at *
  have c2 := blk_cell n0 hc
  have B0 := TW.hide b0
  clear b0 n0 hi hc
  have hl : ((ByteArray.empty.size : Nat) : Int) = 0 := rfl
  go_wp2
  go_ret
  exact ⟨rfl, B0.out⟩
end LW
end Go.Proofs.YtplpplbmajiclabGreat
