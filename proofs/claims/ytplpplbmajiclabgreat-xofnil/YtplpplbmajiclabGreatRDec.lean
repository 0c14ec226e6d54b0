/-
  What the call Decode (the document) gives, for every block in either form.
-/
import Derived.Test.YtplpplbmajiclabGreatDec
namespace Go.Proofs.YtplpplbmajiclabGreat
open Go.RowKit
set_option linter.unusedVariables false
set_option linter.unusedSimpArgs false
namespace LW
open Words
attribute [local go_sem ↓] Go.wp_at_zero Go.wp_at_succ
theorem info28 : (Tryz.prog.info? 23).map (fun i => (i.zero, i.size, i.bytes)) = some (some (.int .u64 0), 1, 8) := by kernel_rfl
/-- The cells of a row of words. -/
def us (l : List Int) : List Value := l.map (Value.int .u64)
theorem us_append (a b : List Int) : us (a ++ b) = us a ++ us b := by simp [us]
theorem us_get (l : List Int) (i : Nat) (h : i < l.length) : (us l)[i]? = some (.int .u64 (l.getD i 0)) := by
  simp [us, List.getD_eq_getElem?_getD, List.getElem?_eq_getElem h]
theorem us_own {w : World} {B : Nat} {v : Value} {l : List Int} (h : w.ownsRow B 23 1 v l.length (us l)) (h0 : 0 < l.length) : ∃ g cap, v = .slice (some ⟨g, 0, none⟩) l.length cap ∧ B ≤ g ∧ g < w.heap.size ∧ (∀ i, w.frozen? ⟨g, i, none⟩ = false) ∧ ∀ i, i < l.length → w.cell? ⟨g, i, none⟩ = some (.int .u64 (l.getD i 0)) := by
  rcases h.2 with ⟨rfl, hz⟩ | ⟨g, cap, cur, rfl, hg, hh, hn, hm, hc, ht⟩
  · omega
  · refine ⟨g, cap, rfl, hg, (Array.getElem?_eq_some_iff.1 hh).1, fun i => frozen_of_row w g i cur 23 hh, fun i hi => ?_⟩
    rw [h.cellAt i (by omega), us_get l i hi]
/-- How many bytes the document reads of a field. -/
def rN (kd : Int) (x : Bool) (f : Int) : Int := if f = 6 ∧ x = true then 4 else rSz kd f
theorem rFits (kd f : Int) (x : Bool) (hk : kd = 1 ∨ kd = 2) (h1 : 1 ≤ f) (h9 : f ≤ 9) : rAt kd f = ((rAt kd f).toNat : Int) ∧ rN kd x f = ((rN kd x f).toNat : Int) ∧ 1 ≤ (rN kd x f).toNat ∧ (rN kd x f).toNat ≤ 8 ∧ (((rAt kd f).toNat + (rN kd x f).toNat : Nat) : Int) ≤ mo kd := by
  have hf : f = 1 ∨ f = 2 ∨ f = 3 ∨ f = 4 ∨ f = 5 ∨ f = 6 ∨ f = 7 ∨ f = 8 ∨ f = 9 := by omega
  rcases hk with rfl | rfl <;> rcases hf with rfl | rfl | rfl | rfl | rfl | rfl | rfl | rfl | rfl <;> cases x <;> decide
/-- The number that the document reads. -/
def rV (kd : Int) (x : Bool) (zs : List Int) (f : Int) : Int := le ((zs.drop (rAt kd f).toNat).take (rN kd x f).toNat)
/-- The numbers that it reads, a nought ahead of them. -/
def vL (kd : Int) (x : Bool) (zs : List Int) : List Int := [0, rV kd x zs 1, rV kd x zs 2, rV kd x zs 3, rV kd x zs 4, rV kd x zs 5, rV kd x zs 6, rV kd x zs 7, rV kd x zs 8, rV kd x zs 9]
theorem vL_get (kd : Int) (x : Bool) (zs : List Int) (k : Nat) (h1 : 1 ≤ k) (h9 : k ≤ 9) : (vL kd x zs).getD k 0 = rV kd x zs k := by
  have hf : k = 1 ∨ k = 2 ∨ k = 3 ∨ k = 4 ∨ k = 5 ∨ k = 6 ∨ k = 7 ∨ k = 8 ∨ k = 9 := by omega
  rcases hf with rfl | rfl | rfl | rfl | rfl | rfl | rfl | rfl | rfl <;> rfl
theorem rV_fV (kd : Int) (x : Bool) (zs : List Int) (f : Int) (h : f ≠ 7 ∨ x = true) : rV kd x zs f = fV kd x zs f := by
  unfold rV fV rN pSz
  have h2 : ¬ (f = 7 ∧ x = false) := by rcases h with h | h <;> simp [h]
  rw [if_neg h2]
theorem fV7_false (kd : Int) (zs : List Int) : fV kd false zs 7 = 0 := by
  simp [fV, pSz, le]
theorem one_own (W : World) : (W.alloc (.cells #[.int .u64 0] 23)).ownsRow W.heap.size 23 1 (.slice (some ⟨W.heap.size, 0, none⟩) 1 1) 1 [.int .u64 0] := by
  refine ⟨rfl, .inr ⟨W.heap.size, 1, #[.int .u64 0], rfl, Nat.le_refl _, ?_, Nat.le_refl _, by simp [maxLen], rfl, rfl⟩⟩
  show (W.heap.push _)[W.heap.size]? = _
  simp
theorem one_new28 (w : World) (z : Value) : ∀ (j : Nat) (u : Value), [z][j]? = some u → (w.alloc (.cells #[z] 23)).cell? ((⟨w.heap.size, 0, none⟩ : Addr).add j) = some u := by
  intro j u hj
  match j, hj with
  | 0, hj => simp at hj; subst hj; simp [Addr.add]
theorem own_block28 {w : World} {B n : Nat} {v : Value} {xs : List Value} (h : w.ownsRow B 23 1 v n xs) : ∀ k, v.ownBlock = some k → B ≤ k := by
  intro k hk
  rcases h.2 with ⟨rfl, _⟩ | ⟨g, cap, cur, rfl, hg, _⟩
  · simp [Value.ownBlock] at hk
  · simp [Value.ownBlock] at hk; omega
theorem blk_lt_cell {w : World} {b o : Nat} {v : Value} (h : w.cell? ⟨b, o, none⟩ = some v) : b < w.heap.size := lt_of_cell h
theorem cell_setRow_other {Z : World} {g h i : Nat} {cs : Array Value} (hne : g ≠ h) : (Z.setRow h cs).cell? ⟨g, i, none⟩ = Z.cell? ⟨g, i, none⟩ := by
  simp only [World.cell?, setRow_other Z h g cs hne]
theorem cell_setCell_same {Z : World} {g i : Nat} {u v : Value} (h : Z.cell? ⟨g, i, none⟩ = some v) : (Z.setCell ⟨g, i, none⟩ u).cell? ⟨g, i, none⟩ = some u := by
  exact World.cell?_setCell_same _ _ _ h
theorem cell_setCell_off {Z : World} {g i j : Nat} {u : Value} (h : i ≠ j) : (Z.setCell ⟨g, j, none⟩ u).cell? ⟨g, i, none⟩ = Z.cell? ⟨g, i, none⟩ := by
  exact World.cell?_setCell_other _ _ _ _ (by intro e; injection e with e1 e2; exact h e2.symm)
end LW
end Go.Proofs.YtplpplbmajiclabGreat
