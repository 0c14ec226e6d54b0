/-
  What the calls rest, isRound, isPlace, fourPlaces, IV, Sigma (the program) and IV, Digit, Sigma, place, Places (the document) give.
-/
import Derived.Test.YtecepllidmkmhaaArr
namespace Go.Proofs.Ytecepllidmkmhaa
open Go.RowKit
set_option linter.unusedVariables false
set_option linter.unusedSimpArgs false
namespace MX
theorem tmod10 (n : Int) : n.tmod 10 = n % 10 ∨ n.tmod 10 = n % 10 - 10 ∧ 0 < n % 10 := by
  rw [Int.tmod_eq_emod]
  split
  · left; omega
  · rename_i h
    right
    refine ⟨by omega, ?_⟩
    have : n % 10 ≠ 0 := fun h0 => h (.inr (Int.dvd_of_emod_eq_zero h0))
    omega
theorem isPlace (n : Int) (w : World) : Calls Try.prog 13 #[.int .i64 n] w fun e w' => e = .returned (.bool (decide (0 ≤ n) && decide (n < 16))) ∧ w = w' := by
  go_enter Try.func13, Try.ntmps13
  go_wp2
  all_goals go_ret
  all_goals exact ⟨LW.ret_bool (by simp_all; try omega), rfl⟩
theorem heap_new (w : World) (o : Obj) : (w.alloc o).heap[w.heap.size]? = some o := heap_alloc_new w o
/-- The first k of a list, and noughts behind them. -/
def upto (l : List Int) (n k : Nat) : List Int := l.take k ++ List.replicate (n - k) 0
theorem upto_length (l : List Int) (n k : Nat) (hl : l.length = n) (hk : k ≤ n) : (upto l n k).length = n := by simp [upto]; omega
theorem upto_set (l : List Int) (n k : Nat) (hl : l.length = n) (hk : k < n) : (upto l n k).set k (l.getD k 0) = upto l n (k + 1) := by
  have e : n - k = n - (k + 1) + 1 := by omega
  unfold upto
  rw [List.set_append_right _ _ (by simp; omega), LW.take_snoc l k (by omega), List.length_take, show k - min k l.length = 0 by omega, e, List.replicate_succ, List.set_cons_zero, List.append_assoc]
  rfl
theorem upto_full (l : List Int) (n : Nat) (hl : l.length = n) : upto l n n = l := by simp [upto, ← hl]
/-- The letters of the orders. -/
def hexL : List Int := ordL.map fun z => if z < 10 then 48 + z else 87 + z
theorem run_index_rows (S : ByteArray) (hS : (S.data.toList.map (fun x => (x.toNat : Int)) == hexL) = true) (j : Nat) (hj : j < 160) (w : World) :
    (Instr.index 9 (.string S) (.int .i64 (j : Int))).run Try.prog w = .ok (.int .u8 (hexL.getD j 0)) w := by
  have hS' : S.data.toList.map (fun x => (x.toNat : Int)) = hexL := by simpa using hS
  have hl : hexL.length = 160 := by decide +kernel
  have hs : S.data.toList.length = 160 := by rw [← hl, ← hS', List.length_map]
  have hlt : j < S.data.toList.length := by omega
  have hget : hexL.getD j 0 = ((S.data.toList[j]).toNat : Int) := by
    rw [← hS', List.getD_eq_getElem?_getD, List.getElem?_map, List.getElem?_eq_getElem hlt]; rfl
  have hb : S[j]? = some (S.data.toList[j]) := by
    have hz : j < S.size := by
      have : S.size = S.data.toList.length := by rw [Array.length_toList]; rfl
      omega
    rw [getElem?_pos S j hz]
    rfl
  rw [hget]
  simp [Instr.index, asIntOf, Sem.run_bind, run_underlying Try.underlying9 w, hb]
/-- The text of the orders. -/
def rowsS : ByteArray := { data := (([48, 49, 50, 51, 52, 53, 54, 55, 56, 57, 97, 98, 99, 100, 101, 102, 101, 97, 52, 56, 57, 102, 100, 54, 49, 99, 48, 50, 98, 55, 53, 51, 98, 56, 99, 48, 53, 50, 102, 100].append [97, 101, 51, 54, 55, 49, 57, 52, 55, 57, 51, 49, 100, 99, 98, 101, 50, 54, 53, 97, 52, 48, 102, 56, 57, 48, 53, 55, 50, 52, 97, 102, 101, 49, 98, 99, 54, 56, 51, 100]).append ([50, 99, 54, 97, 48, 98, 56, 51, 52, 100, 55, 53, 102, 101, 49, 57, 99, 53, 49, 102, 101, 100, 52, 97, 48, 55, 54, 51, 57, 50, 56, 98, 100, 98, 55, 101, 99, 49, 51, 57].append [53, 48, 102, 52, 56, 54, 50, 97, 54, 102, 101, 57, 98, 51, 48, 56, 99, 50, 100, 55, 49, 52, 97, 53, 97, 50, 56, 52, 55, 54, 49, 53, 102, 98, 57, 101, 51, 99, 100, 48])).toArray }
theorem rowsS_is : (rowsS.data.toList.map (fun x => (x.toNat : Int)) == hexL) = true := by decide +kernel
theorem ord_get (r i : Nat) (hi : i < 16) : (ord r).getD i 0 = ordL.getD (r * 16 + i) 0 := by
  simp [ord, List.getD_eq_getElem?_getD, List.getElem?_take, hi, List.getElem?_drop]
theorem hex_get (j : Nat) (hj : j < 160) : hexL.getD j 0 = if ordL.getD j 0 < 10 then 48 + ordL.getD j 0 else 87 + ordL.getD j 0 := by
  have hl : j < ordL.length := by simpa [ordL] using hj
  simp [hexL, List.getD_eq_getElem?_getD, List.getElem?_map, List.getElem?_eq_getElem hl]
end MX
end Go.Proofs.Ytecepllidmkmhaa
