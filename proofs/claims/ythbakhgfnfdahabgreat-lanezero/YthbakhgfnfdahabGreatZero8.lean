/-
  The walk of LaneZero: a nil hasher, and one that no call made, tell ErrZero and nothing else.
-/
import Derived.Test.YthbakhgfnfdahabGreatChecked
import Derived.WalkKit
import Derived.WalkLawsBesides
import Derived.OwnWalk
import Derived.LaidEql
import Derived.WideLaws
import Derived.Laws.Cover3
import Derived.Laws.NewBlocks
namespace Go.Proofs.YthbakhgfnfdahabGreat
open Go.RowKit
set_option linter.unusedVariables false
set_option linter.unusedSimpArgs false
namespace TW
theorem hide {p : Prop} (h : p) : Hid p := h
end TW
namespace ZR
theorem heap_alloc_new (w : World) (o : Obj) : (w.alloc o).heap[w.heap.size]? = some o := by
  show (w.heap.push o)[w.heap.size]? = _
  simp
theorem blk_cell {w : World} {b i : Nat} {cs : Array Value} {t : TypeId} {fr : Nat × Nat} {v : Value} (h : w.heap[b]? = some (.cells cs t fr)) (hv : cs[i]? = some v) : w.cell? ⟨b, i, none⟩ = some v := by
  simp [World.cell?, h, hv]
theorem below_row {B : Nat} {w w' w2 : World} (h : Below B w w') (hb : Below w'.heap.size w' w2) (hB : B ≤ w'.heap.size) : Below B w w2 := h.trans (hb.mono hB)
theorem lanes0 (w : World) : Calls Tryz.prog 23 #[.agg #[.int .i64 0, .int .i64 0, .int .i64 0, .slice none 0 0, .slice none 0 0]] w fun e w' => e = .returned (.int .i64 0) ∧ Below w.heap.size w w' := by
  have hb : Below w.heap.size w (w.alloc (.cells #[.int .i64 0, .int .i64 0, .int .i64 0, .slice none 0 0, .slice none 0 0] 45)) := (Below.refl _ _).alloc (Nat.le_refl _) _
  have HB := TW.hide hb
  clear hb
  go_enter Tryz.func23, Tryz.ntmps23
  go_wp2
  go_ret
  exact ⟨rfl, HB.out⟩
set_option maxRecDepth 100000 in
theorem made0 (w : World) : Calls Tryz.prog 29 #[.pointer none] w fun e w' => e = .returned (.bool false) ∧ Below w.heap.size w w' := by
  go_enter Tryz.func29, Tryz.ntmps29
  go_wp2
  go_ret
  exact ⟨rfl, Below.refl _ _⟩
/-- The first cells of a hasher that no call made. -/
def Zc (w : World) (b : Nat) : Prop := w.cell? ⟨b, 0, none⟩ = some (.int .i64 0) ∧ w.cell? ⟨b, 1, none⟩ = some (.int .i64 0) ∧ w.cell? ⟨b, 2, none⟩ = some (.int .i64 0) ∧ w.cell? ⟨b, 3, none⟩ = some (.slice none 0 0) ∧ w.cell? ⟨b, 4, none⟩ = some (.slice none 0 0)
theorem lt_of_cell {w : World} {b o : Nat} {v : Value} (h : w.cell? ⟨b, o, none⟩ = some v) : b < w.heap.size := by
  rcases Nat.lt_or_ge b w.heap.size with h' | h'
  · exact h'
  · exfalso
    simp [World.cell?, Array.getElem?_eq_none h'] at h
theorem Zc.below {w w' : World} {b : Nat} (h : Zc w b) (hb : Below w.heap.size w w') : Zc w' b := by
  have hl := lt_of_cell h.1
  obtain ⟨h0, h1, h2, h3, h4⟩ := h
  refine ⟨?_, ?_, ?_, ?_, ?_⟩ <;> rw [hb.cell hl] <;> assumption
set_option maxRecDepth 100000 in
theorem madeZ (b : Nat) (w : World) (h : Zc w b) : Calls Tryz.prog 29 #[.pointer (some ⟨b, 0, none⟩)] w fun e w' => e = .returned (.bool false) ∧ Below w.heap.size w w' := by
  obtain ⟨h0, h1, h2, h3, h4⟩ := h
  have HL := TW.hide (lanes0 w)
  go_enter Tryz.func29, Tryz.ntmps29
  go_wp2_with fail
  refine HL.out.mono ?_
  rintro e w' ⟨rfl, hb⟩
  have HB := TW.hide hb
  clear hb
  go_wp2
  go_ret
  exact ⟨rfl, HB.out⟩
set_option maxRecDepth 100000 in
theorem taken (p : Option Addr)  (w : World) (h : Calls Tryz.prog 29 #[.pointer p] w fun e w' => e = .returned (.bool false) ∧ Below w.heap.size w w') :
    Calls Tryz.prog 14 #[.pointer p] w fun e w' => e = .returned (.tuple #[.int .u64 0, .int .i64 0]) ∧ Below w.heap.size w w' := by
  have H := TW.hide h
  clear h
  go_enter Tryz.func14, Tryz.ntmps14
  go_wp2_with fail
  refine H.out.mono ?_
  rintro e w' ⟨rfl, hb⟩
  have HB := TW.hide hb
  clear hb
  go_wp2
  go_ret2
  exact ⟨rfl, HB.out⟩
set_option maxRecDepth 100000 in
theorem write (p : Option Addr) (x0 : Value) (w : World) (h : Calls Tryz.prog 29 #[.pointer p] w fun e w' => e = .returned (.bool false) ∧ Below w.heap.size w w') :
    Calls Tryz.prog 15 #[.pointer p, x0] w fun e w' => e = .returned (.int .i64 7) ∧ Below w.heap.size w w' := by
  have H := TW.hide h
  clear h
  go_enter Tryz.func15, Tryz.ntmps15
  go_wp2_with fail
  refine H.out.mono ?_
  rintro e w' ⟨rfl, hb⟩
  have HB := TW.hide hb
  clear hb
  go_wp2
  go_ret
  exact ⟨rfl, HB.out⟩
set_option maxRecDepth 100000 in
theorem reset (p : Option Addr)  (w : World) (h : Calls Tryz.prog 29 #[.pointer p] w fun e w' => e = .returned (.bool false) ∧ Below w.heap.size w w') :
    Calls Tryz.prog 16 #[.pointer p] w fun e w' => e = .returned (.int .i64 7) ∧ Below w.heap.size w w' := by
  have H := TW.hide h
  clear h
  go_enter Tryz.func16, Tryz.ntmps16
  go_wp2_with fail
  refine H.out.mono ?_
  rintro e w' ⟨rfl, hb⟩
  have HB := TW.hide hb
  clear hb
  go_wp2
  go_ret
  exact ⟨rfl, HB.out⟩
set_option maxRecDepth 100000 in
theorem sum (p : Option Addr)  (w : World) (h : Calls Tryz.prog 29 #[.pointer p] w fun e w' => e = .returned (.bool false) ∧ Below w.heap.size w w') :
    Calls Tryz.prog 17 #[.pointer p] w fun e w' => e = .returned (.slice none 0 0) ∧ Below w.heap.size w w' := by
  have H := TW.hide h
  clear h
  go_enter Tryz.func17, Tryz.ntmps17
  go_wp2_with fail
  refine H.out.mono ?_
  rintro e w' ⟨rfl, hb⟩
  have HB := TW.hide hb
  clear hb
  go_wp2
  go_ret
  exact ⟨rfl, HB.out⟩
set_option maxRecDepth 100000 in
theorem fork (p : Option Addr)  (w : World) (h : Calls Tryz.prog 29 #[.pointer p] w fun e w' => e = .returned (.bool false) ∧ Below w.heap.size w w') :
    Calls Tryz.prog 18 #[.pointer p] w fun e w' => e = .returned (.pointer none) ∧ Below w.heap.size w w' := by
  have H := TW.hide h
  clear h
  go_enter Tryz.func18, Tryz.ntmps18
  go_wp2_with fail
  refine H.out.mono ?_
  rintro e w' ⟨rfl, hb⟩
  have HB := TW.hide hb
  clear hb
  go_wp2
  go_ret
  exact ⟨rfl, HB.out⟩
set_option maxRecDepth 100000 in
set_option maxHeartbeats 4000000 in
theorem zero (b : Value) (w : World) :
    Calls Tryz.prog 5 #[b] w fun e w' => e = .returned (.bool true) ∧ Below w.heap.size w w' := by
  go_enter Tryz.func5, Tryz.ntmps5
  refine wp_seq_k fun KK hK => ?_
  have HK := TW.hide hK
  clear hK
  go_wp2
  refine HK.out _ _ ?_
  clear HK KK
  refine wp_seq_k fun KK hK => ?_
  have HK := TW.hide hK
  clear hK
  go_wp2
  refine HK.out _ _ ?_
  clear HK KK
  refine wp_seq_k fun KK hK => ?_
  have HK := TW.hide hK
  clear hK
  go_wp2
  refine HK.out _ _ ?_
  clear HK KK
  have hb := (Below.refl w.heap.size w).alloc (Nat.le_refl _) (.cells #[.int .i64 0, .int .i64 0, .int .i64 0, .slice none 0 0, .slice none 0 0, .nilIface, .nilIface, .nilIface, .nilIface, .nilIface, .nilIface, .nilIface, .nilIface, .int .u64 0] 53)
  have hz : Zc (w.alloc (.cells #[.int .i64 0, .int .i64 0, .int .i64 0, .slice none 0 0, .slice none 0 0, .nilIface, .nilIface, .nilIface, .nilIface, .nilIface, .nilIface, .nilIface, .nilIface, .int .u64 0] 53)) w.heap.size := by
    have h := heap_alloc_new w (.cells #[.int .i64 0, .int .i64 0, .int .i64 0, .slice none 0 0, .slice none 0 0, .nilIface, .nilIface, .nilIface, .nilIface, .nilIface, .nilIface, .nilIface, .nilIface, .int .u64 0] 53)
    exact ⟨blk_cell h rfl, blk_cell h rfl, blk_cell h rfl, blk_cell h rfl, blk_cell h rfl⟩
  generalize w.alloc _ = W0 at hb hz ⊢
  have B0 := TW.hide hb
  have Z0 := TW.hide hz
  clear hb hz
  have C := TW.hide (taken none  W0 (made0 W0))
  go_wp2_with fail
  refine C.out.mono ?_
  rintro e W1 ⟨rfl, hb⟩
  have B1 : Hid (Below w.heap.size w W1) := below_row B0.out hb B0.out.size
  have Z1 := TW.hide (Z0.out.below hb)
  clear C hb B0 Z0
  have C := TW.hide (taken (some ⟨w.heap.size, 0, none⟩)  W1 (madeZ w.heap.size W1 Z1.out))
  go_wp2_with fail
  refine C.out.mono ?_
  rintro e W2 ⟨rfl, hb⟩
  have B2 : Hid (Below w.heap.size w W2) := below_row B1.out hb B1.out.size
  have Z2 := TW.hide (Z1.out.below hb)
  clear C hb B1 Z1
  have C := TW.hide (write none b W2 (made0 W2))
  go_wp2_with fail
  refine C.out.mono ?_
  rintro e W3 ⟨rfl, hb⟩
  have B3 : Hid (Below w.heap.size w W3) := below_row B2.out hb B2.out.size
  have Z3 := TW.hide (Z2.out.below hb)
  clear C hb B2 Z2
  have C := TW.hide (write (some ⟨w.heap.size, 0, none⟩) b W3 (madeZ w.heap.size W3 Z3.out))
  go_wp2_with fail
  refine C.out.mono ?_
  rintro e W4 ⟨rfl, hb⟩
  have B4 : Hid (Below w.heap.size w W4) := below_row B3.out hb B3.out.size
  have Z4 := TW.hide (Z3.out.below hb)
  clear C hb B3 Z3
  have C := TW.hide (reset none  W4 (made0 W4))
  go_wp2_with fail
  refine C.out.mono ?_
  rintro e W5 ⟨rfl, hb⟩
  have B5 : Hid (Below w.heap.size w W5) := below_row B4.out hb B4.out.size
  have Z5 := TW.hide (Z4.out.below hb)
  clear C hb B4 Z4
  have C := TW.hide (reset (some ⟨w.heap.size, 0, none⟩)  W5 (madeZ w.heap.size W5 Z5.out))
  go_wp2_with fail
  refine C.out.mono ?_
  rintro e W6 ⟨rfl, hb⟩
  have B6 : Hid (Below w.heap.size w W6) := below_row B5.out hb B5.out.size
  have Z6 := TW.hide (Z5.out.below hb)
  clear C hb B5 Z5
  have C := TW.hide (sum none  W6 (made0 W6))
  go_wp2_with fail
  refine C.out.mono ?_
  rintro e W7 ⟨rfl, hb⟩
  have B7 : Hid (Below w.heap.size w W7) := below_row B6.out hb B6.out.size
  have Z7 := TW.hide (Z6.out.below hb)
  clear C hb B6 Z6
  have C := TW.hide (sum (some ⟨w.heap.size, 0, none⟩)  W7 (madeZ w.heap.size W7 Z7.out))
  go_wp2_with fail
  refine C.out.mono ?_
  rintro e W8 ⟨rfl, hb⟩
  have B8 : Hid (Below w.heap.size w W8) := below_row B7.out hb B7.out.size
  have Z8 := TW.hide (Z7.out.below hb)
  clear C hb B7 Z7
  have C := TW.hide (fork none  W8 (made0 W8))
  go_wp2_with fail
  refine C.out.mono ?_
  rintro e W9 ⟨rfl, hb⟩
  have B9 : Hid (Below w.heap.size w W9) := below_row B8.out hb B8.out.size
  have Z9 := TW.hide (Z8.out.below hb)
  clear C hb B8 Z8
  have C := TW.hide (fork (some ⟨w.heap.size, 0, none⟩)  W9 (madeZ w.heap.size W9 Z9.out))
  go_wp2_with fail
  refine C.out.mono ?_
  rintro e W10 ⟨rfl, hb⟩
  have B10 : Hid (Below w.heap.size w W10) := below_row B9.out hb B9.out.size
  have Z10 := TW.hide (Z9.out.below hb)
  clear C hb B9 Z9
  go_wp2
  go_ret
  exact ⟨rfl, B10.out⟩
end ZR
end Go.Proofs.YthbakhgfnfdahabGreat
