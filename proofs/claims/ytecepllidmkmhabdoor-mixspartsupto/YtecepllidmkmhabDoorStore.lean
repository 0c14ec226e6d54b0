/-
  What the calls store, Store32, Store64 (the program) and Store (the document) give, for every word.
-/
import Derived.Test.YtecepllidmkmhabDoorSame
namespace Go.Proofs.YtecepllidmkmhabDoor
open Go.RowKit
set_option linter.unusedVariables false
namespace LW
open Words

theorem info5 : (Tryd.prog.info? 5).map (fun i => (i.zero, i.size, i.bytes)) = some (some (.int .u8 0), 1, 1) := by kernel_rfl

/-- The cells of a row of bytes. -/
def vs (zs : List Int) : List Value := zs.map (Value.int .u8)
theorem vs_append (a b : List Int) : vs (a ++ b) = vs a ++ vs b := by simp [vs]
theorem vs_length (a : List Int) : (vs a).length = a.length := by simp [vs]
theorem vs_get (zs : List Int) (i : Nat) (h : i < zs.length) : (vs zs)[i]? = some (.int .u8 (zs.getD i 0)) := by
  simp [vs, List.getD_eq_getElem?_getD, List.getElem?_eq_getElem h]
/-- What a call owns is a row that can be read. -/
theorem row_of_own {w : World} {B : Nat} {v : Value} {zs : List Int} (h : w.ownsRow B 5 1 v zs.length (vs zs)) : ∃ a cap, v = .slice a zs.length cap ∧ Row w a zs ∧ zs.length ≤ maxLen := by
  rcases h.2 with ⟨rfl, h0⟩ | ⟨g, cap, cur, rfl, hg, hh, hn, hm, hc, ht⟩
  · exact ⟨none, 0, by rw [h0], .inl (List.length_eq_zero_iff.1 h0), by rw [h0]; simp [maxLen]⟩
  · refine ⟨_, cap, rfl, .inr ⟨g, 0, rfl, fun i hi => ?_⟩, by omega⟩
    rw [Nat.zero_add, h.cellAt i (by omega), vs_get zs i hi]
theorem Row.below {w w' : World} {a : Option Addr} {zs : List Int} (h : Row w a zs) (hb : Below w.heap.size w w') : Row w' a zs := by
  rcases h with h | ⟨b, off, rfl, hc⟩
  · exact .inl h
  · refine .inr ⟨b, off, rfl, fun i hi => ?_⟩
    rw [hb.cell (lt_of_cell (hc i hi))]
    exact hc i hi
theorem own_block {w : World} {B n : Nat} {v : Value} {xs : List Value} (h : w.ownsRow B 5 1 v n xs) : ∀ k, v.ownBlock = some k → B ≤ k := by
  intro k hk
  rcases h.2 with ⟨rfl, _⟩ | ⟨g, cap, cur, rfl, hg, _⟩
  · simp [Value.ownBlock] at hk
  · simp [Value.ownBlock] at hk; omega
theorem one_new (w : World) (z : Value) : ∀ (j : Nat) (u : Value), [z][j]? = some u → (w.alloc (.cells #[z] 5)).cell? ((⟨w.heap.size, 0, none⟩ : Addr).add j) = some u := by
  intro j u hj
  match j, hj with
  | 0, hj => simp at hj; subst hj; simp [Addr.add]
theorem Row.drewN {w : World} {a : Option Addr} {zs : List Int} (h : Row w a zs) (q : Nat) : Row (w.drewN q) a zs := h

theorem made_vs (n : Nat) : (madeCells (Value.int .u8 0).cells (n * 1)).toList = vs (List.replicate n 0) := by
  have e : (Value.int .u8 0).cells = #[.int .u8 0] := rfl
  rw [e]
  simp [madeCells, vs, Nat.mod_one, List.map_const']
theorem set_vs (v : Int) (n k : Nat) (h : k < n) : (vs (un v k ++ List.replicate (n - k) 0)).set k (.int .u8 (v / 2 ^ (8 * k) % 256)) = vs (un v (k + 1) ++ List.replicate (n - (k + 1)) 0) := by
  have e : n - k = n - (k + 1) + 1 := by omega
  have hp : (2 : Int) ^ (8 * k) = 256 ^ k := by rw [Int.pow_mul]; rfl
  rw [vs_append, List.set_append_right _ _ (by rw [vs_length, un_length]; omega), vs_length, un_length, Nat.sub_self, e, List.replicate_succ]
  rw [un_snoc, hp]
  simp [vs]

end LW
end Go.Proofs.YtecepllidmkmhabDoor
