/-
  The walk of TreeZero: a nil stream, and one that no call made, tell ErrZero and nothing else.
-/
import Derived.Test.YthcfdldnklnpbabGreatChecked
import Derived.WalkKit
import Derived.WalkLawsBesides
import Derived.OwnWalk
import Derived.LaidEql
import Derived.WideLaws
import Derived.Laws.Cover3
import Derived.Laws.NewBlocks
namespace Go.Proofs.YthcfdldnklnpbabGreat
open Go.RowKit
set_option linter.unusedVariables false
set_option linter.unusedSimpArgs false
namespace TW
theorem hide {p : Prop} (h : p) : Hid p := h
end TW
namespace ZR
theorem heap_alloc_new (w : World) (o : Obj) : (w.alloc o).heap[w.heap.size]? = some o := by
  show (w.heap.push o)[w.heap.size]? = _
  simp
theorem blk_cell {w : World} {b i : Nat} {cs : Array Value} {t : TypeId} {fr : Nat × Nat} {v : Value} (h : w.heap[b]? = some (.cells cs t fr)) (hv : cs[i]? = some v) : w.cell? ⟨b, i, none⟩ = some v := by
  simp [World.cell?, h, hv]
theorem below_row {B : Nat} {w w' w2 : World} (h : Below B w w') (hb : Below w'.heap.size w' w2) (hB : B ≤ w'.heap.size) : Below B w w2 := h.trans (hb.mono hB)
set_option maxRecDepth 100000 in
theorem made0 (w : World) : Calls Tryz.prog 32 #[.pointer none] w fun e w' => e = .returned (.bool false) ∧ Below w.heap.size w w' := by
  go_enter Tryz.func32, Tryz.ntmps32
  go_wp2
  go_ret
  exact ⟨rfl, Below.refl _ _⟩
/-- The first cell of a stream that no call made: no kind. -/
def Zc (w : World) (b : Nat) : Prop := w.cell? ⟨b, 0, none⟩ = some (.int .i64 0)
theorem lt_of_cell {w : World} {b o : Nat} {v : Value} (h : w.cell? ⟨b, o, none⟩ = some v) : b < w.heap.size := by
  rcases Nat.lt_or_ge b w.heap.size with h' | h'
  · exact h'
  · exfalso
    simp [World.cell?, Array.getElem?_eq_none h'] at h
theorem Zc.below {w w' : World} {b : Nat} (h : Zc w b) (hb : Below w.heap.size w w') : Zc w' b := by
  have hl := lt_of_cell h
  show w'.cell? _ = _
  rw [hb.cell hl]
  exact h
set_option maxRecDepth 100000 in
theorem madeZ (b : Nat) (w : World) (h : Zc w b) : Calls Tryz.prog 32 #[.pointer (some ⟨b, 0, none⟩)] w fun e w' => e = .returned (.bool false) ∧ Below w.heap.size w w' := by
  unfold Zc at h
  go_enter Tryz.func32, Tryz.ntmps32
  go_wp2
  go_ret
  exact ⟨rfl, Below.refl _ _⟩
set_option maxRecDepth 100000 in
theorem write (p : Option Addr) (x0 : Value) (w : World) (h : Calls Tryz.prog 32 #[.pointer p] w fun e w' => e = .returned (.bool false) ∧ Below w.heap.size w w') :
    Calls Tryz.prog 11 #[.pointer p, x0] w fun e w' => e = .returned (.int .i64 7) ∧ Below w.heap.size w w' := by
  have H := TW.hide h
  clear h
  go_enter Tryz.func11, Tryz.ntmps11
  go_wp2_with fail
  refine H.out.mono ?_
  rintro e w' ⟨rfl, hb⟩
  have HB := TW.hide hb
  clear hb
  go_wp2
  go_ret
  exact ⟨rfl, HB.out⟩
set_option maxRecDepth 100000 in
theorem reset (p : Option Addr)  (w : World) (h : Calls Tryz.prog 32 #[.pointer p] w fun e w' => e = .returned (.bool false) ∧ Below w.heap.size w w') :
    Calls Tryz.prog 25 #[.pointer p] w fun e w' => e = .returned (.int .i64 7) ∧ Below w.heap.size w w' := by
  have H := TW.hide h
  clear h
  go_enter Tryz.func25, Tryz.ntmps25
  go_wp2_with fail
  refine H.out.mono ?_
  rintro e w' ⟨rfl, hb⟩
  have HB := TW.hide hb
  clear hb
  go_wp2
  go_ret
  exact ⟨rfl, HB.out⟩
set_option maxRecDepth 100000 in
theorem sum (p : Option Addr)  (w : World) (h : Calls Tryz.prog 32 #[.pointer p] w fun e w' => e = .returned (.bool false) ∧ Below w.heap.size w w') :
    Calls Tryz.prog 26 #[.pointer p] w fun e w' => e = .returned (.slice none 0 0) ∧ Below w.heap.size w w' := by
  have H := TW.hide h
  clear h
  go_enter Tryz.func26, Tryz.ntmps26
  go_wp2_with fail
  refine H.out.mono ?_
  rintro e w' ⟨rfl, hb⟩
  have HB := TW.hide hb
  clear hb
  go_wp2
  go_ret
  exact ⟨rfl, HB.out⟩
set_option maxRecDepth 100000 in
theorem taken (p : Option Addr)  (w : World) (h : Calls Tryz.prog 32 #[.pointer p] w fun e w' => e = .returned (.bool false) ∧ Below w.heap.size w w') :
    Calls Tryz.prog 27 #[.pointer p] w fun e w' => e = .returned (.int .u64 0) ∧ Below w.heap.size w w' := by
  have H := TW.hide h
  clear h
  go_enter Tryz.func27, Tryz.ntmps27
  go_wp2_with fail
  refine H.out.mono ?_
  rintro e w' ⟨rfl, hb⟩
  have HB := TW.hide hb
  clear hb
  go_wp2
  go_ret
  exact ⟨rfl, HB.out⟩
set_option maxRecDepth 100000 in
theorem held (p : Option Addr)  (w : World) (h : Calls Tryz.prog 32 #[.pointer p] w fun e w' => e = .returned (.bool false) ∧ Below w.heap.size w w') :
    Calls Tryz.prog 12 #[.pointer p] w fun e w' => e = .returned (.int .i64 0) ∧ Below w.heap.size w w' := by
  have H := TW.hide h
  clear h
  go_enter Tryz.func12, Tryz.ntmps12
  go_wp2_with fail
  refine H.out.mono ?_
  rintro e w' ⟨rfl, hb⟩
  have HB := TW.hide hb
  clear hb
  go_wp2
  go_ret
  exact ⟨rfl, HB.out⟩
set_option maxRecDepth 100000 in
theorem opens (p : Option Addr)  (w : World) (h : Calls Tryz.prog 32 #[.pointer p] w fun e w' => e = .returned (.bool false) ∧ Below w.heap.size w w') :
    Calls Tryz.prog 13 #[.pointer p] w fun e w' => e = .returned (.slice none 0 0) ∧ Below w.heap.size w w' := by
  have H := TW.hide h
  clear h
  go_enter Tryz.func13, Tryz.ntmps13
  go_wp2_with fail
  refine H.out.mono ?_
  rintro e w' ⟨rfl, hb⟩
  have HB := TW.hide hb
  clear hb
  go_wp2
  go_ret
  exact ⟨rfl, HB.out⟩
set_option maxRecDepth 100000 in
theorem fork (p : Option Addr)  (w : World) (h : Calls Tryz.prog 32 #[.pointer p] w fun e w' => e = .returned (.bool false) ∧ Below w.heap.size w w') :
    Calls Tryz.prog 28 #[.pointer p] w fun e w' => e = .returned (.pointer none) ∧ Below w.heap.size w w' := by
  have H := TW.hide h
  clear h
  go_enter Tryz.func28, Tryz.ntmps28
  go_wp2_with fail
  refine H.out.mono ?_
  rintro e w' ⟨rfl, hb⟩
  have HB := TW.hide hb
  clear hb
  go_wp2
  go_ret
  exact ⟨rfl, HB.out⟩
set_option maxRecDepth 100000 in
set_option maxHeartbeats 4000000 in
theorem zero (b : Value) (w : World) :
    Calls Tryz.prog 7 #[b] w fun e w' => e = .returned (.bool true) ∧ Below w.heap.size w w' := by
  go_enter Tryz.func7, Tryz.ntmps7
  refine wp_seq_k fun KK hK => ?_
  have HK := TW.hide hK
  clear hK
  go_wp2
  refine HK.out _ _ ?_
  clear HK KK
  refine wp_seq_k fun KK hK => ?_
  have HK := TW.hide hK
  clear hK
  go_wp2
  refine HK.out _ _ ?_
  clear HK KK
  refine wp_seq_k fun KK hK => ?_
  have HK := TW.hide hK
  clear hK
  go_wp2
  refine HK.out _ _ ?_
  clear HK KK
  have hb := (Below.refl w.heap.size w).alloc (Nat.le_refl _) (.cells #[.int .i64 0, .int .i64 0, .int .i64 0, .int .i64 0, .int .u32 0, .int .i64 0, .slice none 0 0, .slice none 0 0, .slice none 0 0, .int .u64 0, .slice none 0 0, .slice none 0 0] 66)
  have hz : Zc (w.alloc (.cells #[.int .i64 0, .int .i64 0, .int .i64 0, .int .i64 0, .int .u32 0, .int .i64 0, .slice none 0 0, .slice none 0 0, .slice none 0 0, .int .u64 0, .slice none 0 0, .slice none 0 0] 66)) w.heap.size := by
    have h := heap_alloc_new w (.cells #[.int .i64 0, .int .i64 0, .int .i64 0, .int .i64 0, .int .u32 0, .int .i64 0, .slice none 0 0, .slice none 0 0, .slice none 0 0, .int .u64 0, .slice none 0 0, .slice none 0 0] 66)
    exact blk_cell h rfl
  generalize w.alloc _ = W0 at hb hz ⊢
  have B0 := TW.hide hb
  have Z0 := TW.hide hz
  clear hb hz
  have C := TW.hide (write none b W0 (made0 W0))
  go_wp2_with fail
  refine C.out.mono ?_
  rintro e W1 ⟨rfl, hb⟩
  have B1 : Hid (Below w.heap.size w W1) := below_row B0.out hb B0.out.size
  have Z1 := TW.hide (Z0.out.below hb)
  clear C hb B0 Z0
  have C := TW.hide (write (some ⟨w.heap.size, 0, none⟩) b W1 (madeZ w.heap.size W1 Z1.out))
  go_wp2_with fail
  refine C.out.mono ?_
  rintro e W2 ⟨rfl, hb⟩
  have B2 : Hid (Below w.heap.size w W2) := below_row B1.out hb B1.out.size
  have Z2 := TW.hide (Z1.out.below hb)
  clear C hb B1 Z1
  have C := TW.hide (reset none  W2 (made0 W2))
  go_wp2_with fail
  refine C.out.mono ?_
  rintro e W3 ⟨rfl, hb⟩
  have B3 : Hid (Below w.heap.size w W3) := below_row B2.out hb B2.out.size
  have Z3 := TW.hide (Z2.out.below hb)
  clear C hb B2 Z2
  have C := TW.hide (reset (some ⟨w.heap.size, 0, none⟩)  W3 (madeZ w.heap.size W3 Z3.out))
  go_wp2_with fail
  refine C.out.mono ?_
  rintro e W4 ⟨rfl, hb⟩
  have B4 : Hid (Below w.heap.size w W4) := below_row B3.out hb B3.out.size
  have Z4 := TW.hide (Z3.out.below hb)
  clear C hb B3 Z3
  have C := TW.hide (sum none  W4 (made0 W4))
  go_wp2_with fail
  refine C.out.mono ?_
  rintro e W5 ⟨rfl, hb⟩
  have B5 : Hid (Below w.heap.size w W5) := below_row B4.out hb B4.out.size
  have Z5 := TW.hide (Z4.out.below hb)
  clear C hb B4 Z4
  have C := TW.hide (sum (some ⟨w.heap.size, 0, none⟩)  W5 (madeZ w.heap.size W5 Z5.out))
  go_wp2_with fail
  refine C.out.mono ?_
  rintro e W6 ⟨rfl, hb⟩
  have B6 : Hid (Below w.heap.size w W6) := below_row B5.out hb B5.out.size
  have Z6 := TW.hide (Z5.out.below hb)
  clear C hb B5 Z5
  have C := TW.hide (taken none  W6 (made0 W6))
  go_wp2_with fail
  refine C.out.mono ?_
  rintro e W7 ⟨rfl, hb⟩
  have B7 : Hid (Below w.heap.size w W7) := below_row B6.out hb B6.out.size
  have Z7 := TW.hide (Z6.out.below hb)
  clear C hb B6 Z6
  have C := TW.hide (taken (some ⟨w.heap.size, 0, none⟩)  W7 (madeZ w.heap.size W7 Z7.out))
  go_wp2_with fail
  refine C.out.mono ?_
  rintro e W8 ⟨rfl, hb⟩
  have B8 : Hid (Below w.heap.size w W8) := below_row B7.out hb B7.out.size
  have Z8 := TW.hide (Z7.out.below hb)
  clear C hb B7 Z7
  have C := TW.hide (held none  W8 (made0 W8))
  go_wp2_with fail
  refine C.out.mono ?_
  rintro e W9 ⟨rfl, hb⟩
  have B9 : Hid (Below w.heap.size w W9) := below_row B8.out hb B8.out.size
  have Z9 := TW.hide (Z8.out.below hb)
  clear C hb B8 Z8
  have C := TW.hide (held (some ⟨w.heap.size, 0, none⟩)  W9 (madeZ w.heap.size W9 Z9.out))
  go_wp2_with fail
  refine C.out.mono ?_
  rintro e W10 ⟨rfl, hb⟩
  have B10 : Hid (Below w.heap.size w W10) := below_row B9.out hb B9.out.size
  have Z10 := TW.hide (Z9.out.below hb)
  clear C hb B9 Z9
  have C := TW.hide (opens none  W10 (made0 W10))
  go_wp2_with fail
  refine C.out.mono ?_
  rintro e W11 ⟨rfl, hb⟩
  have B11 : Hid (Below w.heap.size w W11) := below_row B10.out hb B10.out.size
  have Z11 := TW.hide (Z10.out.below hb)
  clear C hb B10 Z10
  have C := TW.hide (opens (some ⟨w.heap.size, 0, none⟩)  W11 (madeZ w.heap.size W11 Z11.out))
  go_wp2_with fail
  refine C.out.mono ?_
  rintro e W12 ⟨rfl, hb⟩
  have B12 : Hid (Below w.heap.size w W12) := below_row B11.out hb B11.out.size
  have Z12 := TW.hide (Z11.out.below hb)
  clear C hb B11 Z11
  have C := TW.hide (fork none  W12 (made0 W12))
  go_wp2_with fail
  refine C.out.mono ?_
  rintro e W13 ⟨rfl, hb⟩
  have B13 : Hid (Below w.heap.size w W13) := below_row B12.out hb B12.out.size
  have Z13 := TW.hide (Z12.out.below hb)
  clear C hb B12 Z12
  have C := TW.hide (fork (some ⟨w.heap.size, 0, none⟩)  W13 (madeZ w.heap.size W13 Z13.out))
  go_wp2_with fail
  refine C.out.mono ?_
  rintro e W14 ⟨rfl, hb⟩
  have B14 : Hid (Below w.heap.size w W14) := below_row B13.out hb B13.out.size
  have Z14 := TW.hide (Z13.out.below hb)
  clear C hb B13 Z13
  go_wp2
  go_ret
  exact ⟨rfl, B14.out⟩
end ZR
end Go.Proofs.YthcfdldnklnpbabGreat
