/-
  What the call bytes.Clone gives: the same bytes in memory of their own.
-/
import Derived.Test.YtomdplcmbcjkfaaCheck
import Derived.Laws.AppendOwnNone
import Derived.Lib.LazyBuf
namespace Go.Proofs.Ytomdplcmbcjkfaa
open Go.RowKit
set_option linter.unusedVariables false
namespace LW
open Words
theorem empty_own (w : World) : (w.alloc (.cells #[] 5)).ownsRow w.heap.size 5 1 (.slice (some ⟨w.heap.size, 0, none⟩) 0 0) 0 (vs []) := by
  refine ⟨rfl, .inr ⟨w.heap.size, 0, #[], rfl, Nat.le_refl _, ?_, Nat.le_refl _, Nat.zero_le _, rfl, rfl⟩⟩
  show (w.heap.push _)[w.heap.size]? = _
  simp
theorem oneCell_vs (zs : List Int) : ∀ u ∈ vs zs, u.oneCell' = true := by
  intro u hu
  simp only [vs, List.mem_map] at hu
  obtain ⟨z, _, rfl⟩ := hu
  rfl
theorem row_cells {w w' : World} {ad : Addr} {zs : List Int} (h : Row w (some ad) zs) (hb : Below w.heap.size w w') : ∀ (j : Nat) (u : Value), (vs zs)[j]? = some u → w'.cell? (ad.add j) = some u := by
  intro j u hj
  have hjl : j < zs.length := by
    rcases Nat.lt_or_ge j zs.length with h' | h'
    · exact h'
    · rw [List.getElem?_eq_none (by rw [vs_length]; exact h')] at hj; cases hj
  rw [vs_get zs j hjl] at hj
  rcases h.below hb with rfl | ⟨b, off, he, hc⟩
  · simp at hjl
  · cases he
    rw [← hj, ← hc j hjl]
    congr 1
    simp only [Addr.add]
    split
    · rename_i h; rw [h, Nat.add_zero]
    · rfl
/-- What a call owns that is not nil begins at a block's first cell. -/
theorem own_some {w : World} {B n : Nat} {v : Value} {xs : List Value} (h : w.ownsRow B 5 1 v n xs) (hn : 0 < n) : ∃ g cap, v = .slice (some ⟨g, 0, none⟩) n cap ∧ B ≤ g ∧ g < w.heap.size := by
  rcases h.2 with ⟨rfl, h0⟩ | ⟨g, cap, cur, rfl, hg, hh, _⟩
  · omega
  · exact ⟨g, cap, rfl, hg, (Array.getElem?_eq_some_iff.1 hh).1⟩
set_option maxRecDepth 20000 in
set_option maxHeartbeats 1000000 in
theorem clone (a : Option Addr) (cap : Nat) (zs : List Int) (w : World) (hr : Row w a zs) (hn : a = none → cap = 0) (hm : zs.length ≤ 140737488355328) :
    Calls Try.prog 18 #[.slice a zs.length cap] w fun e w' =>
      ∃ v, e = .returned v ∧ w'.ownsRow w.heap.size 5 1 v zs.length (vs zs) ∧ Below w.heap.size w w' := by
  obtain ⟨i0, hi, hz0, hz1, hz2⟩ := info_parts info5
  have hE := empty_own w
  have hB : Below w.heap.size w (w.alloc (.cells #[] 5)) := (Below.refl _ _).alloc (Nat.le_refl _) _
  cases a with
  | none =>
    obtain rfl := hn rfl
    obtain rfl : zs = [] := by rcases hr with h | ⟨b, off, h, _⟩ <;> first | exact h | cases h
    have heq := fun W : World => run_eql_slice_nil (P := Try.prog) W 24 5 none 0 0 Try.underlying24
    clear hE hB hr hn
    go_enter Try.func18, Try.ntmps18
    go_wp2
    go_ret
    exact ⟨_, rfl, World.ownsRow_nil _ _ _ _, Below.refl _ _⟩
  | some ad =>
    have hcl := row_cells hr hB
    have HC := TW.hide hcl
    have HE := TW.hide hE
    have HB := TW.hide hB
    have HO := TW.hide (oneCell_vs zs)
    have HL := TW.hide (vs_length zs)
    obtain ⟨l, hl⟩ : ∃ l, zs.length = l := ⟨_, rfl⟩
    rw [hl] at hm HL ⊢
    have HN := TW.hide hl
    have heq := fun W : World => run_eql_slice_nil (P := Try.prog) W 24 5 (some ad) l cap Try.underlying24
    clear hE hB hr hn hcl hl
    go_enter Try.func18, Try.ntmps18
    go_wp2_with (at_builtin; refine wpList_append_own _ rfl _ _ 24 rfl w.heap.size 5 i0 (.int .u8 0) 1 1 Try.underlying24 hi hz0 hz1 hz2 rfl (by decide) _ _ _ rfl HE.out ad l cap (vs zs) rfl (by rw [Nat.mul_one]; exact HL.out) HC.out HO.out (by unfold maxLen; omega) (by omega) (by simp) ?_; intro v' w2 hown' hgrow' _; have H1 := TW.hide hown'; have H2 := TW.hide hgrow'; clear hown' hgrow')
    go_ret
    have h1 := H1.out
    rw [Nat.zero_add] at h1
    refine ⟨_, rfl, h1, HB.out.grown H2.out (by simp) ?_⟩
    exact own_block HE.out
end LW
end Go.Proofs.Ytomdplcmbcjkfaa
