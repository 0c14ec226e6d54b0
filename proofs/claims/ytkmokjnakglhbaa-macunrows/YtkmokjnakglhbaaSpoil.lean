/-
  What the law's call spoil does to a part that has no room behind it: of all that was there only bytes of its row are changed.
-/
import Derived.Test.YtkmokjnakglhbaaClone
import Derived.Maps.AppendAt
import Derived.Handy
namespace Go.Proofs.Ytkmokjnakglhbaa
open Go.RowKit Go.ChangeShapes
set_option linter.unusedVariables false
set_option linter.unusedSimpArgs false
namespace LW
open Words
theorem grown_refl (w : World) (row : Option Nat) : w.grownBy w row := ⟨rfl, rfl, rfl, Nat.le_refl _, fun _ _ _ => rfl⟩
theorem grown_setCell {w w' : World} {g o : Nat} {u : Value} (h : w.grownBy w' (some g)) : w.grownBy (w'.setCell ⟨g, o, none⟩ u) (some g) :=
  ⟨h.os, h.tape, h.output, by simpa using h.size, fun k hk hne => by rw [heap_setCell_other _ _ _ _ (fun e => hne (by rw [e]))]; exact h.block k hk hne⟩
theorem grown_alloc {w w' : World} {row : Option Nat} (h : w.grownBy w' row) (o : Obj) : w.grownBy (w'.alloc o) row :=
  ⟨h.os, h.tape, h.output, by have := h.size; simp; omega, fun k hk hne => by rw [Below.heap_alloc _ _ _ (Nat.lt_of_lt_of_le hk h.size)]; exact h.block k hk hne⟩
theorem grown_more {w w' w2 : World} {g : Nat} {row : Option Nat} (h : w.grownBy w' (some g)) (h2 : w'.grownBy w2 row) (hr : ∀ j, row = some j → j = g ∨ w.heap.size ≤ j) : w.grownBy w2 (some g) :=
  ⟨h2.os.trans h.os, h2.tape.trans h.tape, h2.output.trans h.output, Nat.le_trans h.size h2.size, fun k hk hne => by
    rw [h2.block k (Nat.lt_of_lt_of_le hk h.size) (fun e => by
      rcases hr k e.symm with rfl | h'
      · exact hne rfl
      · omega)]
    exact h.block k hk hne⟩
/-- A block whose first m cells are bytes. -/
def Bts (w : World) (g m : Nat) : Prop := ∃ cur : Array Value, w.heap[g]? = some (.cells cur 5 (0, 0)) ∧ ∀ i, i < m → ∃ z : Int, cur[i]? = some (.int .u8 z)
theorem Bts.lt {w : World} {g m : Nat} (h : Bts w g m) : g < w.heap.size := by
  obtain ⟨cur, h1, _⟩ := h
  exact (Array.getElem?_eq_some_iff.1 h1).1
theorem Bts.cell {w : World} {g m i : Nat} (h : Bts w g m) (hi : i < m) : ∃ z : Int, w.cell? ⟨g, i, none⟩ = some (.int .u8 z) := by
  obtain ⟨cur, h1, h2⟩ := h
  obtain ⟨z, hz⟩ := h2 i hi
  exact ⟨z, by simp [World.cell?, h1, hz]⟩
theorem Bts.frozen {w : World} {g m : Nat} (h : Bts w g m) (i : Nat) : w.frozen? ⟨g, i, none⟩ = false := by
  obtain ⟨cur, h1, h2⟩ := h
  simp [World.frozen?, h1]
theorem Bts.setCell {w : World} {g m i : Nat} {q : Int} (h : Bts w g m) : Bts (w.setCell ⟨g, i, none⟩ (.int .u8 q)) g m := by
  obtain ⟨cur, h1, h2⟩ := h
  refine ⟨_, heap_setCell_same _ _ _ _ _ _ h1, fun j hj => ?_⟩
  obtain ⟨z, hz⟩ := h2 j hj
  by_cases e : i = j
  · subst e
    have hlt : i < cur.size := (Array.getElem?_eq_some_iff.1 hz).1
    exact ⟨q, by simp [hlt]⟩
  · exact ⟨z, by rw [Array.getElem?_setIfInBounds_ne e]; exact hz⟩
theorem Bts.grown {w w' : World} {g m : Nat} {row : Option Nat} (h : Bts w g m) (hg : w.grownBy w' row) (hr : some g ≠ row) : Bts w' g m := by
  have hl := h.lt
  obtain ⟨cur, h1, h2⟩ := h
  exact ⟨cur, by rw [hg.block g hl hr]; exact h1, h2⟩
theorem Bts.alloc {w : World} {g m : Nat} (h : Bts w g m) (o : Obj) : Bts (w.alloc o) g m := by
  have hl := h.lt
  obtain ⟨cur, h1, h2⟩ := h
  exact ⟨cur, by rw [Below.heap_alloc _ _ _ hl]; exact h1, h2⟩
theorem Bts.row {w : World} {g m o n : Nat} (h : Bts w g m) (hn : o + n ≤ m) : ∃ ys : List Int, ys.length = n ∧ ∀ (j : Nat) (u : Value), (vs ys)[j]? = some u → w.cell? ((⟨g, o, none⟩ : Addr).add j) = some u := by
  have hz : ∀ i, ∃ z : Int, i < n → w.cell? ⟨g, o + i, none⟩ = some (.int .u8 z) := fun i => by
    by_cases hi : i < n
    · obtain ⟨z, hz⟩ := h.cell (i := o + i) (by omega)
      exact ⟨z, fun _ => hz⟩
    · exact ⟨0, fun h => absurd h hi⟩
  refine ⟨(List.range n).map fun i => Classical.choose (hz i), by simp, fun j u hj => ?_⟩
  have hlt : j < n := by
    have := (List.getElem?_eq_some_iff.1 hj).1
    simpa [vs] using this
  have e : (⟨g, o, none⟩ : Addr).add j = ⟨g, o + j, none⟩ := by unfold Addr.add; split <;> simp_all
  rw [e, Classical.choose_spec (hz j) hlt, ← hj]
  simp [vs, hlt]
set_option maxRecDepth 100000 in
set_option maxHeartbeats 1000000 in
theorem spoil (g o n m : Nat) (w : World) (hb : Bts w g m) (hm : o + n ≤ m) (hm2 : m ≤ 16777216) :
    Calls Try.prog 8 #[.slice (some ⟨g, o, none⟩) n n] w fun e w' => (∃ v, e = .returned v) ∧ w.grownBy w' (some g) ∧ Bts w' g m := by
  obtain ⟨i0, hi, hz0, hz1, hz2⟩ := info_parts info5
  have HO := TW.hide hb
  have hgl := hb.lt
  clear hb
  go_enter Try.func8, Try.ntmps8
  go_wp2
  go_loopw [2] (fun i wr => ∃ k : Nat, k ≤ n ∧ i = .int .i64 k ∧ Bts wr g m ∧ w.grownBy wr (some g)) (fun i _ => n - (intOf i).toNat)
  case atStart => exact ⟨0, Nat.zero_le _, rfl, HO.out, grown_refl _ _⟩
  case round =>
    rename_i Q1 K1 a1
    obtain ⟨k, hk, rfl, hown, hgr⟩ := hrel
    clear HO
    by_cases hlt : k < n
    · obtain ⟨y, hc⟩ := hown.cell (i := o + k) (by omega)
      have hf := hown.frozen (o + k)
      obtain ⟨q, hq⟩ : ∃ q, bits .xor .u8 y 90 = q := ⟨_, rfl⟩
      have HN := TW.hide (hown.setCell (i := o + k) (q := q))
      have HG := TW.hide (grown_setCell (o := o + k) (u := .int .u8 q) hgr)
      have k1 : (k : Int) < (n : Int) := by omega
      clear hown hgr
      go_wp2
      go_roundw
      case rel => exact ⟨k + 1, by omega, by go_num, HN.out, HG.out⟩
      case measure => simp [intOf]; omega
    · have HA := TW.hide a1
      clear a1
      have HO := TW.hide hown
      have HG := TW.hide hgr
      clear hown hgr
      go_wp2
      refine HA.out _ _ ?_
      clear HA
      go_wp2
      go_loopw [0, 3] (fun b i wr => ∃ k : Nat, k ≤ 70 ∧ i = .int .i64 k ∧ ((k = 0 ∧ b = .slice (some ⟨g, o, none⟩) n n) ∨ (0 < k ∧ ∃ ys, wr.ownsRow w.heap.size 5 1 b (n + k) (vs ys))) ∧ w.grownBy wr (some g) ∧ Bts wr g m) (fun _ i _ => 70 - (intOf i).toNat)
      case atStart => exact ⟨0, Nat.zero_le _, rfl, .inl ⟨rfl, rfl⟩, HG.out, HO.out⟩
      case round =>
        obtain ⟨k2, hk2, rfl, hor, hgr2, hbt⟩ := hrel
        clear HO HG
        by_cases hlt2 : k2 < 70
        · have HG := TW.hide hgr2
          have k1 : (k2 : Int) < 70 := by omega
          have e8 : IntKind.i64.wrap (17 + (k2 : Int)) = 17 + (k2 : Int) := by rw [IntKind.wrap_i64]; omega
          have e9 : IntKind.u8.wrap (17 + (k2 : Int)) = 17 + (k2 : Int) := by rw [IntKind.wrap_u8]; omega
          have hsz : w.heap.size ≤ wr.heap.size := HG.out.size
          have HB := TW.hide hbt
          rcases hor with ⟨rfl, rfl⟩ | ⟨hk0, ys2, hown2⟩
          · obtain ⟨os, hos, hcs⟩ := (hbt.alloc (.cells #[.int .u8 17] 5)).row hm
            have HL := TW.hide hos
            have HCS := TW.hide hcs
            clear hos hcs hbt hgr2
            go_wp2_with (at_builtin; refine wpList_append_grows _ rfl _ _ 22 rfl 5 i0 (.int .u8 0) 1 1 Try.underlying22 hi hz0 hz1 hz2 rfl (by decide) (some ⟨g, o, none⟩) n n (vs os) rfl (by simp) (by rw [vs_length, HL.out, Nat.mul_one]) (fun b hb => by cases hb; exact HCS.out) ⟨wr.heap.size, 0, none⟩ 1 1 [.int .u8 17] rfl rfl (one_new _ _) (by simp [Value.oneCell']) (by omega) (by unfold maxLen; omega) (by omega) ?_)
            intro v' w2 hown' hgrow'
            have H1 : Hid (∃ ys, w2.ownsRow w.heap.size 5 1 v' (n + (0 + 1)) (vs ys)) := ⟨os ++ [17], by
              rw [vs_append]
              refine ⟨hown'.1, hown'.2.imp id (fun ⟨g', c', cur, e, hg, rest⟩ => ⟨g', c', cur, e, ?_, rest⟩)⟩
              first | omega | (simp at hg; omega)⟩
            have H2 := TW.hide (grown_more (grown_alloc HG.out _) hgrow' (fun j hj => by cases hj))
            have H3 := TW.hide ((HB.out.alloc _).grown hgrow' (by simp))
            clear hown' hgrow'
            go_wp2
            go_roundw
            case rel => exact ⟨0 + 1, by omega, by go_num, .inr ⟨by omega, H1.out⟩, H2.out, H3.out⟩
            case measure => simp [intOf]
          · have HO := TW.hide hown2
            clear hown2 hbt hgr2
            go_wp2_with (at_builtin; refine wpList_append_own_at _ rfl _ _ 22 rfl w.heap.size 5 i0 (.int .u8 0) 1 1 Try.underlying22 hi hz0 hz1 hz2 rfl (by decide) _ (n + k2) _ rfl (HO.out.alloc _) ⟨wr.heap.size, 0, none⟩ 1 1 [.int .u8 (17 + (k2 : Int))] ?c6 rfl ?c1 ?c2 ?c3 ?c4 ?c5 ?_)
            case c6 => rfl
            case c1 => exact one_new _ _
            case c2 => intro u hu; simp at hu; subst hu; rfl
            case c3 => unfold maxLen; omega
            case c4 => omega
            case c5 => simp; omega
            intro v' w2 hown' hgrow' _ hat
            have H1 : Hid (∃ ys, w2.ownsRow w.heap.size 5 1 v' (n + (k2 + 1)) (vs ys)) := ⟨ys2 ++ [17 + (k2 : Int)], by rw [vs_append]; exact hown'⟩
            have H2 := TW.hide (grown_more (grown_alloc HG.out _) hgrow' (fun j hj => .inr (own_block HO.out j hj)))
            have H3 := TW.hide ((HB.out.alloc _).grown hgrow' (fun h => by have := own_block HO.out g h.symm; omega))
            clear hown' hgrow' hat
            go_wp2
            go_roundw
            case rel => exact ⟨k2 + 1, by omega, by go_num, .inr ⟨by omega, H1.out⟩, H2.out, H3.out⟩
            case measure => simp [intOf]; omega
        · go_wp2
          go_returns
          exact ⟨⟨_, rfl⟩, hgr2, hbt⟩
end LW
end Go.Proofs.Ytkmokjnakglhbaa
