/-
  The walk of SliceZero: a nil reader, and one that no call made, tell ErrZero and nothing else.
-/
import Derived.Test.YtplclmhkplopdabChecked
import Derived.WalkKit
import Derived.WalkLawsBesides
import Derived.OwnWalk
import Derived.LaidEql
import Derived.WideLaws
import Derived.Laws.Cover3
import Derived.Laws.NewBlocks
namespace Go.Proofs.Ytplclmhkplopdab
open Go.RowKit
set_option linter.unusedVariables false
set_option linter.unusedSimpArgs false
namespace TW
theorem hide {p : Prop} (h : p) : Hid p := h
end TW
namespace ZR
theorem heap_alloc_new (w : World) (o : Obj) : (w.alloc o).heap[w.heap.size]? = some o := by
  show (w.heap.push o)[w.heap.size]? = _
  simp
theorem blk_cell {w : World} {b i : Nat} {cs : Array Value} {t : TypeId} {fr : Nat × Nat} {v : Value} (h : w.heap[b]? = some (.cells cs t fr)) (hv : cs[i]? = some v) : w.cell? ⟨b, i, none⟩ = some v := by
  simp [World.cell?, h, hv]
theorem below_row {B : Nat} {w w' w2 : World} (h : Below B w w') (hb : Below w'.heap.size w' w2) (hB : B ≤ w'.heap.size) : Below B w w2 := h.trans (hb.mono hB)
set_option maxRecDepth 100000 in
theorem made0 (w : World) : Calls Try.prog 8 #[.pointer none] w fun e w' => e = .returned (.bool false) ∧ Below w.heap.size w w' := by
  go_enter Try.func8, Try.ntmps8
  go_wp2
  go_ret
  exact ⟨rfl, Below.refl _ _⟩
/-- The first cell of a stream that no call made: no kind. -/
def Zc (w : World) (b : Nat) : Prop := w.cell? ⟨b, 0, none⟩ = some (.pointer none)
theorem lt_of_cell {w : World} {b o : Nat} {v : Value} (h : w.cell? ⟨b, o, none⟩ = some v) : b < w.heap.size := by
  rcases Nat.lt_or_ge b w.heap.size with h' | h'
  · exact h'
  · exfalso
    simp [World.cell?, Array.getElem?_eq_none h'] at h
theorem Zc.below {w w' : World} {b : Nat} (h : Zc w b) (hb : Below w.heap.size w w') : Zc w' b := by
  have hl := lt_of_cell h
  show w'.cell? _ = _
  rw [hb.cell hl]
  exact h
set_option maxRecDepth 100000 in
theorem madeZ (b : Nat) (w : World) (h : Zc w b) : Calls Try.prog 8 #[.pointer (some ⟨b, 0, none⟩)] w fun e w' => e = .returned (.bool false) ∧ Below w.heap.size w w' := by
  unfold Zc at h
  go_enter Try.func8, Try.ntmps8
  go_wp2
  go_ret
  exact ⟨rfl, Below.refl _ _⟩
set_option maxRecDepth 100000 in
theorem total (p : Option Addr)  (w : World) (h : Calls Try.prog 8 #[.pointer p] w fun e w' => e = .returned (.bool false) ∧ Below w.heap.size w w') :
    Calls Try.prog 4 #[.pointer p] w fun e w' => e = .returned (.tuple #[.int .u64 0, .bool false]) ∧ Below w.heap.size w w' := by
  have H := TW.hide h
  clear h
  go_enter Try.func4, Try.ntmps4
  go_wp2_with fail
  refine H.out.mono ?_
  rintro e w' ⟨rfl, hb⟩
  have HB := TW.hide hb
  clear hb
  go_wp2
  go_ret2
  exact ⟨rfl, HB.out⟩
set_option maxRecDepth 100000 in
theorem write (p : Option Addr) (x0 : Value) (w : World) (h : Calls Try.prog 8 #[.pointer p] w fun e w' => e = .returned (.bool false) ∧ Below w.heap.size w w') :
    Calls Try.prog 5 #[.pointer p, x0] w fun e w' => e = .returned (.int .i64 7) ∧ Below w.heap.size w w' := by
  have H := TW.hide h
  clear h
  go_enter Try.func5, Try.ntmps5
  go_wp2_with fail
  refine H.out.mono ?_
  rintro e w' ⟨rfl, hb⟩
  have HB := TW.hide hb
  clear hb
  go_wp2
  go_ret
  exact ⟨rfl, HB.out⟩
set_option maxRecDepth 100000 in
theorem take (p : Option Addr)  (w : World) (h : Calls Try.prog 8 #[.pointer p] w fun e w' => e = .returned (.bool false) ∧ Below w.heap.size w w') :
    Calls Try.prog 6 #[.pointer p] w fun e w' => e = .returned (.slice none 0 0) ∧ Below w.heap.size w w' := by
  have H := TW.hide h
  clear h
  go_enter Try.func6, Try.ntmps6
  go_wp2_with fail
  refine H.out.mono ?_
  rintro e w' ⟨rfl, hb⟩
  have HB := TW.hide hb
  clear hb
  go_wp2
  go_ret
  exact ⟨rfl, HB.out⟩
set_option maxRecDepth 100000 in
theorem done (p : Option Addr)  (w : World) (h : Calls Try.prog 8 #[.pointer p] w fun e w' => e = .returned (.bool false) ∧ Below w.heap.size w w') :
    Calls Try.prog 7 #[.pointer p] w fun e w' => e = .returned (.bool false) ∧ Below w.heap.size w w' := by
  have H := TW.hide h
  clear h
  go_enter Try.func7, Try.ntmps7
  go_wp2_with fail
  refine H.out.mono ?_
  rintro e w' ⟨rfl, hb⟩
  have HB := TW.hide hb
  clear hb
  go_wp2
  go_ret
  exact ⟨rfl, HB.out⟩
set_option maxRecDepth 100000 in
set_option maxHeartbeats 4000000 in
theorem zero (b : Value) (w : World) :
    Calls Try.prog 3 #[b] w fun e w' => e = .returned (.bool true) ∧ Below w.heap.size w w' := by
  go_enter Try.func3, Try.ntmps3
  refine wp_seq_k fun KK hK => ?_
  have HK := TW.hide hK
  clear hK
  go_wp2
  refine HK.out _ _ ?_
  clear HK KK
  refine wp_seq_k fun KK hK => ?_
  have HK := TW.hide hK
  clear hK
  go_wp2
  refine HK.out _ _ ?_
  clear HK KK
  refine wp_seq_k fun KK hK => ?_
  have HK := TW.hide hK
  clear hK
  go_wp2
  refine HK.out _ _ ?_
  clear HK KK
  have hb := (Below.refl w.heap.size w).alloc (Nat.le_refl _) (.cells #[.pointer none] 26)
  have hz : Zc (w.alloc (.cells #[.pointer none] 26)) w.heap.size := by
    have h := heap_alloc_new w (.cells #[.pointer none] 26)
    exact blk_cell h rfl
  generalize w.alloc _ = W0 at hb hz ⊢
  have B0 := TW.hide hb
  have Z0 := TW.hide hz
  clear hb hz
  have C := TW.hide (total none  W0 (made0 W0))
  go_wp2_with fail
  refine C.out.mono ?_
  rintro e W1 ⟨rfl, hb⟩
  have B1 : Hid (Below w.heap.size w W1) := below_row B0.out hb B0.out.size
  have Z1 := TW.hide (Z0.out.below hb)
  clear C hb B0 Z0
  have C := TW.hide (total (some ⟨w.heap.size, 0, none⟩)  W1 (madeZ w.heap.size W1 Z1.out))
  go_wp2_with fail
  refine C.out.mono ?_
  rintro e W2 ⟨rfl, hb⟩
  have B2 : Hid (Below w.heap.size w W2) := below_row B1.out hb B1.out.size
  have Z2 := TW.hide (Z1.out.below hb)
  clear C hb B1 Z1
  have C := TW.hide (write none b W2 (made0 W2))
  go_wp2_with fail
  refine C.out.mono ?_
  rintro e W3 ⟨rfl, hb⟩
  have B3 : Hid (Below w.heap.size w W3) := below_row B2.out hb B2.out.size
  have Z3 := TW.hide (Z2.out.below hb)
  clear C hb B2 Z2
  have C := TW.hide (write (some ⟨w.heap.size, 0, none⟩) b W3 (madeZ w.heap.size W3 Z3.out))
  go_wp2_with fail
  refine C.out.mono ?_
  rintro e W4 ⟨rfl, hb⟩
  have B4 : Hid (Below w.heap.size w W4) := below_row B3.out hb B3.out.size
  have Z4 := TW.hide (Z3.out.below hb)
  clear C hb B3 Z3
  have C := TW.hide (take none  W4 (made0 W4))
  go_wp2_with fail
  refine C.out.mono ?_
  rintro e W5 ⟨rfl, hb⟩
  have B5 : Hid (Below w.heap.size w W5) := below_row B4.out hb B4.out.size
  have Z5 := TW.hide (Z4.out.below hb)
  clear C hb B4 Z4
  have C := TW.hide (take (some ⟨w.heap.size, 0, none⟩)  W5 (madeZ w.heap.size W5 Z5.out))
  go_wp2_with fail
  refine C.out.mono ?_
  rintro e W6 ⟨rfl, hb⟩
  have B6 : Hid (Below w.heap.size w W6) := below_row B5.out hb B5.out.size
  have Z6 := TW.hide (Z5.out.below hb)
  clear C hb B5 Z5
  have C := TW.hide (done none  W6 (made0 W6))
  go_wp2_with fail
  refine C.out.mono ?_
  rintro e W7 ⟨rfl, hb⟩
  have B7 : Hid (Below w.heap.size w W7) := below_row B6.out hb B6.out.size
  have Z7 := TW.hide (Z6.out.below hb)
  clear C hb B6 Z6
  have C := TW.hide (done (some ⟨w.heap.size, 0, none⟩)  W7 (madeZ w.heap.size W7 Z7.out))
  go_wp2_with fail
  refine C.out.mono ?_
  rintro e W8 ⟨rfl, hb⟩
  have B8 : Hid (Below w.heap.size w W8) := below_row B7.out hb B7.out.size
  have Z8 := TW.hide (Z7.out.below hb)
  clear C hb B7 Z7
  go_wp2
  go_ret
  exact ⟨rfl, B8.out⟩
end ZR
end Go.Proofs.Ytplclmhkplopdab
