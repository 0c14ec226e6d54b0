/-
  Parts for the walk of WordCuts: what is kept of memory while the law turns the pieces round; the case without a piece.
-/
import Derived.Test.YtbjelenmnlmodabRCut
import Derived.Test.YtbjelenmnlmodabAwake
import Derived.Test.YtbjelenmnlmodabArgs
import Derived.BigRegion
namespace Go.Proofs.Ytbjelenmnlmodab
open Go.RowKit Go.ChangeShapes
set_option linter.unusedVariables false
namespace LW
open Words Pcs
theorem cutNeg (a : Option Addr) (len cap : Nat) (n : Int) (w : World) (hn : n < 1) :
    Calls Try.prog 9 #[.slice a len cap, .int .i64 n] w fun e w' => e = .returned (.tuple #[.slice none 0 0, .int .i64 1]) ∧ w = w' := by
  go_enter Try.func9, Try.ntmps9
  go_wp2
  go_ret2
  exact ⟨rfl, rfl⟩
theorem rcutNeg (a : Option Addr) (len cap : Nat) (n : Int) (w : World) (hn : n < 1) :
    Calls Try.prog 10 #[.slice a len cap, .int .i64 n] w fun e w' => e = .returned (.tuple #[.slice none 0 0, .int .i64 1]) ∧ w = w' := by
  go_enter Try.func10, Try.ntmps10
  go_wp2
  go_ret2
  exact ⟨rfl, rfl⟩
theorem drewN_below {w w' : World} {B : Nat} (h : Below B w w') (n : Nat) : Below B w (w'.drewN n) := h.trans ⟨rfl, rfl, rfl, Nat.le_refl _, fun _ _ => rfl⟩
/-- What is kept of a world while two of its blocks are written and new ones come. -/
structure Keep (h g6 : Nat) (w3 wr : World) : Prop where
  os : wr.os = w3.os
  tape : wr.tape = w3.tape
  output : wr.output = w3.output
  size : w3.heap.size ≤ wr.heap.size
  block : ∀ k, k < w3.heap.size → k ≠ h → k ≠ g6 → wr.heap[k]? = w3.heap[k]?
theorem Keep.refl (h g6 : Nat) (w : World) : Keep h g6 w w := ⟨rfl, rfl, rfl, Nat.le_refl _, fun _ _ _ _ => rfl⟩
theorem Keep.drewN {h g6 : Nat} {w3 wr : World} (k : Keep h g6 w3 wr) (q : Nat) : Keep h g6 w3 (wr.drewN q) := ⟨k.os, k.tape, k.output, k.size, k.block⟩
theorem Keep.setCell {h g6 b o : Nat} {w3 wr : World} {v : Value} (k : Keep h g6 w3 wr) (hb : b = h ∨ b = g6) : Keep h g6 w3 (wr.setCell ⟨b, o, none⟩ v) :=
  ⟨k.os, k.tape, k.output, by simpa [World.setCell] using k.size, fun i hi h1 h2 => by rw [Below.heap_setCell _ _ _ _ (by rcases hb with rfl | rfl; exact h1; exact h2)]; exact k.block i hi h1 h2⟩
theorem Keep.grown {h g6 : Nat} {w3 wr w' : World} {o : Obj} (k : Keep h g6 w3 wr) (hg : (wr.alloc o).grownBy w' none) : Keep h g6 w3 w' :=
  ⟨hg.os.trans k.os, hg.tape.trans k.tape, hg.output.trans k.output, by have := hg.size; have := k.size; simp at *; omega, fun i hi h1 h2 => by
    have := k.size
    rw [hg.block i (by simp; omega) (by simp), Below.heap_alloc _ _ _ (by omega)]
    exact k.block i hi h1 h2⟩
theorem Keep.below {h g6 B : Nat} {w w3 wr : World} (k : Keep h g6 w3 wr) (hb : Below B w w3) (hB : B ≤ w.heap.size) (hh : B ≤ h) (hg : B ≤ g6) : Below B w wr :=
  ⟨k.os.trans hb.os, k.tape.trans hb.tape, k.output.trans hb.output, Nat.le_trans hb.size k.size, fun i hi => by
    have := hb.size
    rw [k.block i (by omega) (by omega) (by omega)]; exact hb.block i hi⟩
theorem Keep.cell {h g6 b o : Nat} {w3 wr : World} (k : Keep h g6 w3 wr) (hb : b < w3.heap.size) (h1 : b ≠ h) (h2 : b ≠ g6) : wr.cell? ⟨b, o, none⟩ = w3.cell? ⟨b, o, none⟩ :=
  World.cell?_of_block (w := w3) (k.block b hb h1 h2)
/-- The program's row, its first x bytes turned round. -/
def Hst (h len : Nat) (zs : List Int) (x : Nat) (wr : World) : Prop :=
  ∃ ch : Array Value, wr.heap[h]? = some (.cells ch 5 (0, 0)) ∧ ∀ t, t < len → ch[t]? = some (.int .u8 (if t < x then 255 - zs.getD t 0 else zs.getD t 0))
/-- A new row that holds piece j turned round and its number behind it. -/
def NewP (len n : Nat) (zs : List Int) (j g : Nat) (wr : World) : Prop :=
  ∃ cb : Array Value, wr.heap[g]? = some (.cells cb 5 (0, 0)) ∧ (∀ t, t < pl len n j → cb[t]? = some (.int .u8 (255 - zs.getD (j * n + t) 0))) ∧ cb[pl len n j]? = some (.int .u8 ((j : Int) % 256))
/-- The program's spine, its first i pieces grown. -/
def Sst (h g6 H2 len n c : Nat) (zs : List Int) (i : Nat) (wr : World) : Prop :=
  ∃ cur : Array Value, wr.heap[g6]? = some (.cells cur 22 (0, 0)) ∧ (∀ j, i ≤ j → j < c → cur[j]? = some (.slice (some ⟨h, j * n, none⟩) (pl len n j) (pl len n j))) ∧
    ∀ j, j < i → ∃ g cap, cur[j]? = some (.slice (some ⟨g, 0, none⟩) (pl len n j + 1) cap) ∧ H2 ≤ g ∧ NewP len n zs j g wr
theorem Hst.cell {h len x : Nat} {zs : List Int} {wr : World} (hs : Hst h len zs x wr) (t : Nat) (ht : t < len) : wr.cell? ⟨h, t, none⟩ = some (.int .u8 (if t < x then 255 - zs.getD t 0 else zs.getD t 0)) ∧ wr.frozen? ⟨h, t, none⟩ = false := by
  obtain ⟨ch, h1, h2⟩ := hs
  exact ⟨by rw [cell_of_row _ _ _ ch 5 (0, 0) h1, h2 t ht], frozen_of_row _ _ _ ch 5 h1⟩
theorem Hst.store {h len x : Nat} {zs : List Int} {wr : World} (hs : Hst h len zs x wr) (hx : x < len) : Hst h len zs (x + 1) (wr.setCell ⟨h, x, none⟩ (.int .u8 (255 - zs.getD x 0))) := by
  obtain ⟨ch, h1, h2⟩ := hs
  refine ⟨ch.setIfInBounds x (.int .u8 (255 - zs.getD x 0)), heap_setCell_same wr h x ch 5 _ h1, fun t ht => ?_⟩
  rw [Array.getElem?_setIfInBounds]
  by_cases e : x = t
  · subst e
    have hlt : x < ch.size := by
      rcases Nat.lt_or_ge x ch.size with h' | h'
      · exact h'
      · have := h2 x hx; rw [Array.getElem?_eq_none h'] at this; cases this
    simp [hlt]
  · rw [if_neg e, h2 t ht]
    by_cases e2 : t < x
    · rw [if_pos e2, if_pos (by omega)]
    · rw [if_neg e2, if_neg (by omega)]
theorem Hst.other {h len x : Nat} {zs : List Int} {wr w' : World} (hs : Hst h len zs x wr) (he : w'.heap[h]? = wr.heap[h]?) : Hst h len zs x w' := by
  obtain ⟨ch, h1, h2⟩ := hs
  exact ⟨ch, by rw [he]; exact h1, h2⟩
theorem Sst.other {h g6 H2 len n c i : Nat} {zs : List Int} {wr w' : World} (hs : Sst h g6 H2 len n c zs i wr) (he : w'.heap[g6]? = wr.heap[g6]?) (hn : ∀ k, H2 ≤ k → k < wr.heap.size → w'.heap[k]? = wr.heap[k]?) : Sst h g6 H2 len n c zs i w' := by
  obtain ⟨cur, h1, h2, h3⟩ := hs
  refine ⟨cur, by rw [he]; exact h1, h2, fun j hj => ?_⟩
  obtain ⟨g, cap, h4, h5, cb, h6, h7⟩ := h3 j hj
  exact ⟨g, cap, h4, h5, cb, by rw [hn g h5 (lt_of_heap h6)]; exact h6, h7⟩
theorem Sst.piece {h g6 H2 len n c i : Nat} {zs : List Int} {wr : World} (hs : Sst h g6 H2 len n c zs i wr) (hi : i < c) : wr.cell? ⟨g6, i, none⟩ = some (.slice (some ⟨h, i * n, none⟩) (pl len n i) (pl len n i)) ∧ wr.frozen? ⟨g6, i, none⟩ = false := by
  obtain ⟨cur, h1, h2, _⟩ := hs
  exact ⟨by rw [cell_of_row _ _ _ cur 22 (0, 0) h1, h2 i (Nat.le_refl _) hi], frozen_of_row _ _ _ cur 22 h1⟩
theorem Sst.next {h g6 H2 len n c i g cap : Nat} {zs : List Int} {wr : World} (hs : Sst h g6 H2 len n c zs i wr) (hi : i < c) (hg : H2 ≤ g) (hg6 : g6 < H2) (hnew : NewP len n zs i g wr) :
    Sst h g6 H2 len n c zs (i + 1) (wr.setCell ⟨g6, i, none⟩ (.slice (some ⟨g, 0, none⟩) (pl len n i + 1) cap)) := by
  obtain ⟨cur, h1, h2, h3⟩ := hs
  have hlt : i < cur.size := by
    rcases Nat.lt_or_ge i cur.size with h' | h'
    · exact h'
    · have := h2 i (Nat.le_refl _) hi; rw [Array.getElem?_eq_none h'] at this; cases this
  refine ⟨cur.setIfInBounds i _, heap_setCell_same wr g6 i cur 22 _ h1, fun j h4 h5 => ?_, fun j hj => ?_⟩
  · rw [Array.getElem?_setIfInBounds, if_neg (by omega)]; exact h2 j (by omega) h5
  · by_cases e : j = i
    · subst e
      refine ⟨g, cap, by rw [Array.getElem?_setIfInBounds]; simp [hlt], hg, ?_⟩
      obtain ⟨cb, h6, h7⟩ := hnew
      exact ⟨cb, by rw [Below.heap_setCell _ _ _ _ (by simp only; omega)]; exact h6, h7⟩
    · obtain ⟨g', cap', h4, h5, cb, h6, h7⟩ := h3 j (by omega)
      exact ⟨g', cap', by rw [Array.getElem?_setIfInBounds, if_neg (by omega)]; exact h4, h5, cb, by rw [Below.heap_setCell _ _ _ _ (by simp only; omega)]; exact h6, h7⟩
theorem Sst.grownP {h g6 H2 len n c i j : Nat} {zs : List Int} {wr : World} (hs : Sst h g6 H2 len n c zs i wr) (hj : j < i) :
    ∃ g cap, wr.cell? ⟨g6, j, none⟩ = some (.slice (some ⟨g, 0, none⟩) (pl len n j + 1) cap) ∧ (∀ t, t < pl len n j → wr.cell? ⟨g, t, none⟩ = some (.int .u8 (255 - zs.getD (j * n + t) 0))) ∧ wr.cell? ⟨g, pl len n j, none⟩ = some (.int .u8 ((j : Int) % 256)) := by
  obtain ⟨cur, h1, h2, h3⟩ := hs
  obtain ⟨g, cap, h4, h5, cb, h6, h7, h8⟩ := h3 j hj
  exact ⟨g, cap, by rw [cell_of_row _ _ _ cur 22 (0, 0) h1, h4], fun t ht => by rw [cell_of_row _ _ _ cb 5 (0, 0) h6, h7 t ht], by rw [cell_of_row _ _ _ cb 5 (0, 0) h6, h8]⟩
/-- The document's pieces, in every world that keeps them. -/
theorem mpiece {h g6 g8 B2 n c c8 : Nat} {zs : List Int} {ps : List Value} {w3 W : World} (hd : Done B2 zs n c ps w3 none) (ho : w3.ownsRow B2 22 1 (.slice (some ⟨g8, 0, none⟩) c c8) c ps) (hk : Keep h g6 w3 W) (hh : h < B2) (hg : g6 < B2) (j : Nat) (hj : j < c) :
    ∃ g cap, W.cell? ⟨g8, j, none⟩ = some (.slice (some ⟨g, 0, none⟩) (pl zs.length n j) cap) ∧ ∀ t, t < pl zs.length n j → W.cell? ⟨g, t, none⟩ = some (.int .u8 (zs.getD (j * n + t) 0)) := by
  obtain ⟨cur8, h1, h2, h3⟩ := own_cur ho
  obtain ⟨g, cap, cur, h4, h5, _, h6, h7⟩ := hd.2 j hj
  have l8 := lt_of_heap h1
  have lg := lt_of_heap h6
  refine ⟨g, cap, ?_, fun t ht => ?_⟩
  · rw [hk.cell l8 (by omega) (by omega), cell_of_row _ _ _ cur8 22 (0, 0) h1, h3 j hj, h4]
  · rw [hk.cell lg (by omega) (by omega), cell_of_row _ _ _ cur 5 (0, 0) h6, h7 t ht]
/-- No piece: the error is told, or there was no byte. -/
theorem cuts0 (a : Option Addr) (cap : Nat) (zs : List Int) (n : Int) (er : Int) (w : World) (hz : Byt zs) (hr : Row w a zs) (hn : a = none → cap = 0) (hm : zs.length ≤ 1048576)
    (h1 : ∀ (W : World) a' c', Row W a' zs → Calls Try.prog 9 #[.slice a' zs.length c', .int .i64 n] W fun e w' => ∃ a1 c1, e = .returned (.tuple #[.slice a1 0 c1, .int .i64 er]) ∧ Below W.heap.size W w')
    (h2 : ∀ (W : World), Row W a zs → Calls Try.prog 10 #[.slice a zs.length cap, .int .i64 n] W fun e w' => ∃ a1 c1, e = .returned (.tuple #[.slice a1 0 c1, .int .i64 er]) ∧ Below W.heap.size W w') :
    Calls Try.prog 3 #[.slice a zs.length cap, .int .i64 n] w fun e w' => e = .returned (.bool true) ∧ Below w.heap.size w w' := by
  have hM : zs.length ≤ maxLen := by unfold maxLen; omega
  have c1 := copied a cap zs w hr hn (by omega)
  have t5 : ∀ a' cap' W, Row W a zs → Row W a' zs → Calls Try.prog 11 #[.slice a zs.length cap, .slice a' zs.length cap'] W fun e w' => e = .returned (.bool true) ∧ ∃ q, w' = W.drewN q := by
    intro a' cap' W h h'
    have := same a a' cap cap' zs zs W h h' hM hM
    simpa using this
  have ho := fun (w' : World) (B : Nat) (x : Value) (h : w'.ownsRow B 5 1 x zs.length (vs zs)) => row_of_own h
  obtain ⟨len, hl⟩ : ∃ len, zs.length = len := ⟨_, rfl⟩
  rw [hl] at c1 t5 ho h1 h2 ⊢
  have C := TW.hide c1
  have S := TW.hide t5
  have HO := TW.hide ho
  have H1 := TW.hide h1
  have H2 := TW.hide h2
  have HR := TW.hide hr
  clear c1 t5 ho h1 h2 hr hl hM hn hz hm
  go_enter Try.func3, Try.ntmps3
  go_wp2_with fail
  refine C.out.mono ?_
  rintro e w1 ⟨x, rfl, hown, hb1⟩
  obtain ⟨a', cap', rfl, hr1, _⟩ := HO.out _ _ _ hown
  have R1 := TW.hide hr1
  have B1 := TW.hide hb1
  clear hown hr1 hb1
  go_wp2_with fail
  refine (H1.out _ _ _ R1.out).mono ?_
  rintro e w2 ⟨a2, c2, rfl, hb2⟩
  have R2 := TW.hide (R1.out.below hb2)
  have B2 : Hid (Below w.heap.size w w2) := B1.out.trans (hb2.mono B1.out.size)
  clear hb2
  go_wp2_with fail
  refine (H2.out _ (HR.out.below B2.out)).mono ?_
  rintro e w3 ⟨a3, c3, rfl, hb3⟩
  have R3 := TW.hide (R2.out.below hb3)
  have B3 : Hid (Below w.heap.size w w3) := B2.out.trans (hb3.mono B2.out.size)
  clear hb3
  go_wp2_with fail
  refine (S.out _ _ _ (HR.out.below B3.out) R3.out).mono ?_
  rintro e w4 ⟨rfl, q4, rfl⟩
  have B4 := TW.hide (drewN_below B3.out q4)
  have R4 := TW.hide (R3.out.drewN q4)
  go_wp2_with fail
  go_loop [10] (fun i => i = .int .i64 0) (fun _ => 0)
  case atStart => rfl
  case round =>
    subst hrel
    go_wp2_with fail
    go_loop [11] (fun i => i = .int .i64 0) (fun _ => 0)
    case atStart => rfl
    case round =>
      subst hrel
      go_wp2_with fail
      go_loop [13] (fun i => i = .int .i64 0) (fun _ => 0)
      case atStart => rfl
      case round =>
        subst hrel
        go_wp2_with fail
        refine (S.out _ _ _ (HR.out.below B4.out) R4.out).mono ?_
        rintro e w5 ⟨rfl, q5, rfl⟩
        go_wp2_with fail
        refine (awake _).mono ?_
        rintro e w6 ⟨rfl, hb6⟩
        have B6 : Hid (Below w.heap.size w w6) := (drewN_below B3.out (q4 + q5)).trans (hb6.mono B3.out.size)
        clear hb6
        go_wp2_with fail
        go_ret
        exact ⟨rfl, B6.out⟩
end LW
end Go.Proofs.Ytbjelenmnlmodab
