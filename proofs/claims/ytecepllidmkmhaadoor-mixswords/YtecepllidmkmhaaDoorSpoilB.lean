/-
  What the laws' call spoil does: of all that was there only the row that it is handed is changed.
-/
import Derived.Test.YtecepllidmkmhaaDoorBytesB
import Derived.Handy
namespace Go.Proofs.YtecepllidmkmhaaDoor
open Go.RowKit
set_option linter.unusedVariables false
set_option linter.unusedSimpArgs false
namespace MX
open Turn
attribute [local go_sem ↓] Go.wp_at_zero Go.wp_at_succ
open Words
theorem grown_refl (w : World) (row : Option Nat) : w.grownBy w row := ⟨rfl, rfl, rfl, Nat.le_refl _, fun _ _ _ => rfl⟩
theorem grown_setCell {w w' : World} {g o : Nat} {u : Value} (h : w.grownBy w' (some g)) : w.grownBy (w'.setCell ⟨g, o, none⟩ u) (some g) :=
  ⟨h.os, h.tape, h.output, by simpa using h.size, fun k hk hne => by rw [heap_setCell_other _ _ _ _ (fun e => hne (by rw [e]))]; exact h.block k hk hne⟩
theorem grown_alloc {w w' : World} {row : Option Nat} (h : w.grownBy w' row) (o : Obj) : w.grownBy (w'.alloc o) row :=
  ⟨h.os, h.tape, h.output, by have := h.size; simp; omega, fun k hk hne => by rw [Below.heap_alloc _ _ _ (Nat.lt_of_lt_of_le hk h.size)]; exact h.block k hk hne⟩
theorem grown_more {w w' w2 : World} {g : Nat} {row : Option Nat} (h : w.grownBy w' (some g)) (h2 : w'.grownBy w2 row) (hr : ∀ j, row = some j → j = g ∨ w.heap.size ≤ j) : w.grownBy w2 (some g) :=
  ⟨h2.os.trans h.os, h2.tape.trans h.tape, h2.output.trans h.output, Nat.le_trans h.size h2.size, fun k hk hne => by
    rw [h2.block k (Nat.lt_of_lt_of_le hk h.size) (fun e => by
      rcases hr k e.symm with rfl | h'
      · exact hne rfl
      · omega)]
    exact h.block k hk hne⟩
theorem vs_set (zs : List Int) (k : Nat) (q : Int) : (LW.vs zs).set k (.int .u8 q) = LW.vs (zs.set k q) := by simp [LW.vs]
set_option maxRecDepth 100000 in
set_option maxHeartbeats 1000000 in
theorem spoil (g n cap : Nat) (zs : List Int) (w : World) (hown : w.ownsRow g 5 1 (.slice (some ⟨g, 0, none⟩) n cap) n (LW.vs zs)) (hg : g < w.heap.size) (hn : n ≤ 1000) :
    Calls Tryd.prog 16 #[.slice (some ⟨g, 0, none⟩) n cap] w fun e w' => (∃ v, e = .returned v) ∧ w.grownBy w' (some g) := by
  obtain ⟨i0, hi, hz0, hz1, hz2⟩ := info_parts LW.info5
  have HO := TW.hide hown
  clear hown
  go_enter Tryd.func16, Tryd.ntmps16
  go_wp2
  go_loopw [2] (fun i wr => ∃ k : Nat, k ≤ n ∧ i = .int .i64 k ∧ (∃ ys, wr.ownsRow g 5 1 (.slice (some ⟨g, 0, none⟩) n cap) n (LW.vs ys)) ∧ w.grownBy wr (some g)) (fun i _ => n - (intOf i).toNat)
  case atStart => exact ⟨0, Nat.zero_le _, rfl, ⟨zs, HO.out⟩, grown_refl _ _⟩
  case round =>
    rename_i Q1 K1 a1
    obtain ⟨k, hk, rfl, ⟨ys, hown⟩, hgr⟩ := hrel
    clear HO
    by_cases hlt : k < n
    · have hl : ys.length = n := by have := hown.1; rw [LW.vs_length] at this; omega
      have hc := hown.cellAt k (by omega)
      rw [LW.vs_get ys k (by omega)] at hc
      have hf := hown.frozenAt k
      generalize ys.getD k 0 = y at *
      obtain ⟨q, hq⟩ : ∃ q, bits .xor .u8 y 90 = q := ⟨_, rfl⟩
      have HN : Hid ((wr.setCell ⟨g, k, none⟩ (.int .u8 q)).ownsRow g 5 1 (.slice (some ⟨g, 0, none⟩) n cap) n (LW.vs (ys.set k q))) := by
        show World.ownsRow _ _ _ _ _ _ _
        rw [← vs_set]; exact (hown.stored k _).1
      have HG := TW.hide (grown_setCell (o := k) (u := .int .u8 q) hgr)
      have k1 : (k : Int) < (n : Int) := by omega
      clear hown hgr hl
      go_wp2
      go_roundw
      case rel => exact ⟨k + 1, by omega, by go_num, ⟨_, HN.out⟩, HG.out⟩
      case measure => simp [intOf]; omega
    · have HA := TW.hide a1
      clear a1
      have HO := TW.hide hown
      have HG := TW.hide hgr
      clear hown hgr
      go_wp2
      refine HA.out _ _ ?_
      clear HA
      go_wp2
      go_loopw [0, 3] (fun b i wr => ∃ k : Nat, k ≤ 70 ∧ i = .int .i64 k ∧ (∃ ys, wr.ownsRow g 5 1 b (n + k) (LW.vs ys)) ∧ w.grownBy wr (some g) ∧ ∀ j, b.ownBlock = some j → j = g ∨ w.heap.size ≤ j) (fun _ i _ => 70 - (intOf i).toNat)
      case atStart => exact ⟨0, Nat.zero_le _, rfl, ⟨_, HO.out⟩, HG.out, fun j hj => .inl (by simpa [Value.ownBlock] using hj.symm)⟩
      case round =>
        obtain ⟨k2, hk2, rfl, ⟨ys2, hown2⟩, hgr2, hbl⟩ := hrel
        clear HO HG
        by_cases hlt2 : k2 < 70
        · have HO := TW.hide hown2
          have HG := TW.hide hgr2
          have HBL := TW.hide hbl
          clear hown2 hgr2 hbl
          have k1 : (k2 : Int) < 70 := by omega
          have e8 : IntKind.i64.wrap (17 + (k2 : Int)) = 17 + (k2 : Int) := by rw [IntKind.wrap_i64]; omega
          have e9 : IntKind.u8.wrap (17 + (k2 : Int)) = 17 + (k2 : Int) := by rw [IntKind.wrap_u8]; omega
          have hsz : w.heap.size ≤ wr.heap.size := HG.out.size
          go_wp2_with (at_builtin; refine wpList_append_own_at _ rfl _ _ 22 rfl g 5 i0 (.int .u8 0) 1 1 Tryd.underlying22 hi hz0 hz1 hz2 rfl (by decide) _ (n + k2) _ rfl (HO.out.alloc _) ⟨wr.heap.size, 0, none⟩ 1 1 [.int .u8 (17 + (k2 : Int))] ?c6 rfl ?c1 ?c2 ?c3 ?c4 ?c5 ?_)
          case c6 => rfl
          case c1 => exact LW.one_new _ _
          case c2 => intro u hu; simp at hu; subst hu; rfl
          case c3 => unfold maxLen; omega
          case c4 => omega
          case c5 => simp; omega
          intro v' w2 hown' hgrow' _ hat
          have H1 : Hid (∃ ys, w2.ownsRow g 5 1 v' (n + (k2 + 1)) (LW.vs ys)) := ⟨ys2 ++ [17 + (k2 : Int)], by rw [LW.vs_append]; exact hown'⟩
          have H2 := TW.hide (grown_more (grown_alloc HG.out _) hgrow' HBL.out)
          have H3 : Hid (∀ j, v'.ownBlock = some j → j = g ∨ w.heap.size ≤ j) := fun j hj => by
            rcases hat with h | h
            · exact HBL.out j (h ▸ hj)
            · rw [h] at hj
              simp at hj
              right; omega
          clear hown' hgrow' hat
          go_wp2
          go_roundw
          case rel => exact ⟨k2 + 1, by omega, by go_num, H1.out, H2.out, H3.out⟩
          case measure => simp [intOf]; omega
        · go_wp2
          go_returns
          exact ⟨⟨_, rfl⟩, hgr2⟩
end MX
end Go.Proofs.YtecepllidmkmhaaDoor
