/-
  The walk of MacZero: a nil ring, and one that no call made, tell ErrZero and nothing else.
-/
import Derived.Test.YtkmokjnakglhbabGreatChecked
import Derived.WalkKit
import Derived.WalkLawsBesides
import Derived.OwnWalk
import Derived.LaidEql
import Derived.WideLaws
import Derived.Laws.Cover3
import Derived.Laws.NewBlocks
namespace Go.Proofs.YtkmokjnakglhbabGreat
open Go.RowKit
set_option linter.unusedVariables false
set_option linter.unusedSimpArgs false
namespace TW
theorem hide {p : Prop} (h : p) : Hid p := h
end TW
namespace ZR
theorem heap_alloc_new (w : World) (o : Obj) : (w.alloc o).heap[w.heap.size]? = some o := by
  show (w.heap.push o)[w.heap.size]? = _
  simp
theorem blk_cell {w : World} {b i : Nat} {cs : Array Value} {t : TypeId} {fr : Nat × Nat} {v : Value} (h : w.heap[b]? = some (.cells cs t fr)) (hv : cs[i]? = some v) : w.cell? ⟨b, i, none⟩ = some v := by
  simp [World.cell?, h, hv]
set_option maxRecDepth 100000 in
theorem made0 (w : World) : Calls Tryz.prog 37 #[.pointer none] w fun e w' => e = .returned (.bool false) ∧ w = w' := by
  go_enter Tryz.func37, Tryz.ntmps37
  go_wp2
  go_ret
  exact ⟨rfl, rfl⟩
set_option maxRecDepth 100000 in
theorem madeZ (b : Nat) (w : World) (h : w.cell? ⟨b, 2, none⟩ = some (.map none)) : Calls Tryz.prog 37 #[.pointer (some ⟨b, 0, none⟩)] w fun e w' => e = .returned (.bool false) ∧ w = w' := by
  have hne := fun W : World => run_neq_map_nil (P := Tryz.prog) W 69 9 22 none Tryz.underlying69
  go_enter Tryz.func37, Tryz.ntmps37
  go_wp2
  go_ret
  exact ⟨rfl, rfl⟩
set_option maxRecDepth 100000 in
theorem tag (p : Option Addr) (x0 x1 : Value) (w : World) (h : Calls Tryz.prog 37 #[.pointer p] w fun e w' => e = .returned (.bool false) ∧ w = w') :
    Calls Tryz.prog 24 #[.pointer p, x0, x1] w fun e w' => e = .returned (.tuple #[.slice none 0 0, .int .i64 7]) ∧ w = w' := by
  have H := TW.hide h
  clear h
  go_enter Tryz.func24, Tryz.ntmps24
  go_wp2_with fail
  refine H.out.mono ?_
  rintro e w' ⟨rfl, rfl⟩
  go_wp2
  go_ret2
  exact ⟨rfl, rfl⟩
set_option maxRecDepth 100000 in
theorem who (p : Option Addr) (x0 x1 : Value) (w : World) (h : Calls Tryz.prog 37 #[.pointer p] w fun e w' => e = .returned (.bool false) ∧ w = w') :
    Calls Tryz.prog 26 #[.pointer p, x0, x1] w fun e w' => e = .returned (.tuple #[.string .empty, .bool false, .int .i64 7]) ∧ w = w' := by
  have H := TW.hide h
  clear h
  go_enter Tryz.func26, Tryz.ntmps26
  go_wp2_with fail
  refine H.out.mono ?_
  rintro e w' ⟨rfl, rfl⟩
  go_wp2
  go_ret3
  exact ⟨rfl, rfl⟩
set_option maxRecDepth 100000 in
theorem add (p : Option Addr) (x0 x1 : Value) (w : World) (h : Calls Tryz.prog 37 #[.pointer p] w fun e w' => e = .returned (.bool false) ∧ w = w') :
    Calls Tryz.prog 18 #[.pointer p, x0, x1] w fun e w' => e = .returned (.int .i64 7) ∧ w = w' := by
  have H := TW.hide h
  clear h
  go_enter Tryz.func18, Tryz.ntmps18
  go_wp2_with fail
  refine H.out.mono ?_
  rintro e w' ⟨rfl, rfl⟩
  go_wp2
  go_ret
  exact ⟨rfl, rfl⟩
set_option maxRecDepth 100000 in
theorem drop (p : Option Addr) (x0 : Value) (w : World) (h : Calls Tryz.prog 37 #[.pointer p] w fun e w' => e = .returned (.bool false) ∧ w = w') :
    Calls Tryz.prog 20 #[.pointer p, x0] w fun e w' => e = .returned (.int .i64 7) ∧ w = w' := by
  have H := TW.hide h
  clear h
  go_enter Tryz.func20, Tryz.ntmps20
  go_wp2_with fail
  refine H.out.mono ?_
  rintro e w' ⟨rfl, rfl⟩
  go_wp2
  go_ret
  exact ⟨rfl, rfl⟩
set_option maxRecDepth 100000 in
theorem names (p : Option Addr) (w : World) (h : Calls Tryz.prog 37 #[.pointer p] w fun e w' => e = .returned (.bool false) ∧ w = w') :
    Calls Tryz.prog 22 #[.pointer p] w fun e w' => e = .returned (.slice none 0 0) ∧ w = w' := by
  have H := TW.hide h
  clear h
  go_enter Tryz.func22, Tryz.ntmps22
  go_wp2_with fail
  refine H.out.mono ?_
  rintro e w' ⟨rfl, rfl⟩
  go_wp2
  go_ret
  exact ⟨rfl, rfl⟩
set_option maxRecDepth 100000 in
set_option maxHeartbeats 1000000 in
theorem zero (c0 c1 c2 c3 : Value) (w : World) :
    Calls Tryz.prog 7 #[.agg #[c0, c1, c2, c3]] w fun e w' => e = .returned (.bool true) ∧ Below w.heap.size w w' := by
  have hbel := ((Below.refl w.heap.size w).alloc (Nat.le_refl _) (.cells #[c0, c1, c2, c3] 52)).alloc (by simp) (.cells #[.int .i64 0, .int .i64 0, .map none] 71)
  have k0 : ((w.alloc (.cells #[c0, c1, c2, c3] 52)).alloc (.cells #[.int .i64 0, .int .i64 0, .map none] 71)).heap[w.heap.size]? = some (.cells #[c0, c1, c2, c3] 52 (0, 0)) := by
    rw [Below.heap_alloc _ _ _ (by simp)]; exact heap_alloc_new w _
  have m0 := heap_alloc_new (w.alloc (.cells #[c0, c1, c2, c3] 52)) (.cells #[.int .i64 0, .int .i64 0, .map none] 71)
  rw [show (w.alloc (.cells #[c0, c1, c2, c3] 52)).heap.size = w.heap.size + 1 by simp] at m0
  have k1 : ((w.alloc (.cells #[c0, c1, c2, c3] 52)).alloc (.cells #[.int .i64 0, .int .i64 0, .map none] 71)).cell? ⟨w.heap.size, 1, none⟩ = some c1 := by rw [blk_cell k0 (i := 1) (v := c1) rfl]
  have k2 : ((w.alloc (.cells #[c0, c1, c2, c3] 52)).alloc (.cells #[.int .i64 0, .int .i64 0, .map none] 71)).cell? ⟨w.heap.size, 2, none⟩ = some c2 := by rw [blk_cell k0 (i := 2) (v := c2) rfl]
  have k3 : ((w.alloc (.cells #[c0, c1, c2, c3] 52)).alloc (.cells #[.int .i64 0, .int .i64 0, .map none] 71)).cell? ⟨w.heap.size, 3, none⟩ = some c3 := by rw [blk_cell k0 (i := 3) (v := c3) rfl]
  have m2 : ((w.alloc (.cells #[c0, c1, c2, c3] 52)).alloc (.cells #[.int .i64 0, .int .i64 0, .map none] 71)).cell? ⟨w.heap.size + 1, 2, none⟩ = some (.map none) := blk_cell m0 (i := 2) (v := .map none) rfl
  clear k0 m0
  have HB := TW.hide hbel
  have K1 := TW.hide k1
  have K2 := TW.hide k2
  have K3 := TW.hide k3
  have M2 := TW.hide m2
  clear hbel k1 k2 k3 m2
  go_enter Tryz.func7, Tryz.ntmps7
  refine wp_seq_k fun KK hK => ?_
  have HK := TW.hide hK
  clear hK
  go_wp2
  refine HK.out _ _ ?_
  clear HK KK
  refine wp_seq_k fun KK hK => ?_
  have HK := TW.hide hK
  clear hK
  go_wp2
  refine HK.out _ _ ?_
  clear HK KK
  refine wp_seq_k fun KK hK => ?_
  have HK := TW.hide hK
  clear hK
  go_wp2
  refine HK.out _ _ ?_
  clear HK KK
  generalize (w.alloc (.cells #[c0, c1, c2, c3] 52)).alloc (.cells #[.int .i64 0, .int .i64 0, .map none] 71) = W at *
  have k1 := K1.out
  have k2 := K2.out
  have k3 := K3.out
  have MZ := TW.hide (madeZ (w.heap.size + 1) W M2.out)
  have N0 := TW.hide (made0 W)
  clear K1 K2 K3 M2
  have tag0 := TW.hide (tag none c1 c3 W N0.out)
  have tag1 := TW.hide (tag (some ⟨w.heap.size + 1, 0, none⟩) c1 c3 W MZ.out)
  have who0 := TW.hide (who none c2 c3 W N0.out)
  have who1 := TW.hide (who (some ⟨w.heap.size + 1, 0, none⟩) c2 c3 W MZ.out)
  have add0 := TW.hide (add none c1 c2 W N0.out)
  have add1 := TW.hide (add (some ⟨w.heap.size + 1, 0, none⟩) c1 c2 W MZ.out)
  have drop0 := TW.hide (drop none c1 W N0.out)
  have drop1 := TW.hide (drop (some ⟨w.heap.size + 1, 0, none⟩) c1 W MZ.out)
  have names0 := TW.hide (names none  W N0.out)
  have names1 := TW.hide (names (some ⟨w.heap.size + 1, 0, none⟩)  W MZ.out)
  clear MZ N0
  go_wp2_with fail
  refine tag0.out.mono ?_
  rintro e w' ⟨rfl, rfl⟩
  go_wp2_with fail
  refine tag1.out.mono ?_
  rintro e w' ⟨rfl, rfl⟩
  go_wp2_with fail
  refine who0.out.mono ?_
  rintro e w' ⟨rfl, rfl⟩
  go_wp2_with fail
  refine who1.out.mono ?_
  rintro e w' ⟨rfl, rfl⟩
  go_wp2_with fail
  refine add0.out.mono ?_
  rintro e w' ⟨rfl, rfl⟩
  go_wp2_with fail
  refine add1.out.mono ?_
  rintro e w' ⟨rfl, rfl⟩
  go_wp2_with fail
  refine drop0.out.mono ?_
  rintro e w' ⟨rfl, rfl⟩
  go_wp2_with fail
  refine drop1.out.mono ?_
  rintro e w' ⟨rfl, rfl⟩
  go_wp2_with fail
  refine names0.out.mono ?_
  rintro e w' ⟨rfl, rfl⟩
  go_wp2_with fail
  refine names1.out.mono ?_
  rintro e w' ⟨rfl, rfl⟩
  go_wp2_with fail
  go_ret
  exact ⟨rfl, HB.out⟩
end ZR
end Go.Proofs.YtkmokjnakglhbabGreat
