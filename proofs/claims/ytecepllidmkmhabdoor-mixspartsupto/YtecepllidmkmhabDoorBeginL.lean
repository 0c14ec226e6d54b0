/-
  Plain facts on what the rounds begin with (no Go in sight).
-/
import Derived.Test.YtecepllidmkmhabDoorRinfo
import Derived.Test.YtecepllidmkmhabDoorEql
namespace Go.Proofs.YtecepllidmkmhabDoor
open Go.RowKit
set_option linter.unusedVariables false
set_option linter.unusedSimpArgs false
namespace MX
open Turn
attribute [local go_sem ↓] Go.wp_at_zero Go.wp_at_succ
theorem cell_other {Z : World} {g p o i : Nat} {u : Value} (hne : g ≠ p) : (Z.setCell ⟨p, o, none⟩ u).cell? ⟨g, i, none⟩ = Z.cell? ⟨g, i, none⟩ := by
  simp only [World.cell?, heap_setCell_other Z ⟨p, o, none⟩ g u hne]
theorem ivL_length : ivL.length = 8 := rfl
theorem ivL_Ws : Ws ivL := by
  intro x hx
  have : ivL.all (fun x => decide (0 ≤ x) && decide (x < 4294967296)) = true := by decide +kernel
  have h := List.all_eq_true.1 this x hx
  simp only [Bool.and_eq_true, decide_eq_true_eq] at h
  exact h
/-- All bits turned. -/
def co (x : Int) : Int := xo 4294967295 x
theorem co_W (x : Int) (h : W x) : W (co x) := xo_bd _ _ ⟨by omega, by omega⟩ h
theorem join_set (a b : List Int) (k : Nat) (x y : Int) (ha : a.length = 8) (hk : k < 8) : ((a ++ b).set k x).set (k + 8) y = a.set k x ++ b.set k y := by
  rw [List.set_append_left _ _ (by omega), List.set_append_right _ _ (by simp; omega), List.length_set, show k + 8 - a.length = k by omega]
theorem join_get (a b : List Int) (k : Nat) (ha : a.length = 8) : (a ++ b).getD (k + 8) 0 = b.getD k 0 := by
  rw [List.getD_eq_getElem?_getD, List.getElem?_append_right (by omega), show k + 8 - a.length = k by omega, List.getD_eq_getElem?_getD]
/-- What goes into the rounds. -/
def init2 (hs : List Int) (lo hi : Int) : List Int := ((hs ++ ivL).set 12 (xo (ivL.getD 4 0) lo)).set 13 (xo (ivL.getD 5 0) hi)
def init3 (hs : List Int) (lo hi : Int) (la : Bool) : List Int := if la then (init2 hs lo hi).set 14 (co (ivL.getD 6 0)) else init2 hs lo hi
def initL (hs : List Int) (lo hi : Int) (la no : Bool) : List Int := if no then (init3 hs lo hi la).set 15 (co (ivL.getD 7 0)) else init3 hs lo hi la
theorem init2_length (hs : List Int) (lo hi : Int) (h : hs.length = 8) : (init2 hs lo hi).length = 16 := by simp [init2, h, ivL_length]
theorem init3_length (hs : List Int) (lo hi : Int) (la : Bool) (h : hs.length = 8) : (init3 hs lo hi la).length = 16 := by
  unfold init3; split <;> simp [init2_length hs lo hi h]
theorem initL_length (hs : List Int) (lo hi : Int) (la no : Bool) (h : hs.length = 8) : (initL hs lo hi la no).length = 16 := by
  unfold initL; split <;> simp [init3_length hs lo hi la h]
theorem init2_Ws {hs : List Int} {lo hi : Int} (h : Ws hs) (hl : W lo) (hh : W hi) : Ws (init2 hs lo hi) := by
  refine Ws.set (Ws.set ?_ (xo_bd _ _ (ivL_Ws.get _) hl) _) (xo_bd _ _ (ivL_Ws.get _) hh) _
  intro x hx
  rcases List.mem_append.1 hx with h' | h'
  · exact h x h'
  · exact ivL_Ws x h'
theorem init3_Ws {hs : List Int} {lo hi : Int} (la : Bool) (h : Ws hs) (hl : W lo) (hh : W hi) : Ws (init3 hs lo hi la) := by
  unfold init3; split
  · exact (init2_Ws h hl hh).set (co_W _ (ivL_Ws.get _)) _
  · exact init2_Ws h hl hh
theorem initL_Ws {hs : List Int} {lo hi : Int} (la no : Bool) (h : Ws hs) (hl : W lo) (hh : W hi) : Ws (initL hs lo hi la no) := by
  unfold initL; split
  · exact (init3_Ws la h hl hh).set (co_W _ (ivL_Ws.get _)) _
  · exact init3_Ws la h hl hh
theorem init0_get (hs : List Int) (k : Nat) (h : hs.length = 8) : (hs ++ ivL).getD (k + 8) 0 = ivL.getD k 0 := join_get hs ivL k h
theorem init1_get (hs : List Int) (x : Int) (h : hs.length = 8) : ((hs ++ ivL).set 12 x).getD 13 0 = ivL.getD 5 0 := by
  rw [getD_set_other _ _ _ _ (by omega)]; exact join_get hs ivL 5 h
theorem init2_get (hs : List Int) (lo hi : Int) (h : hs.length = 8) : (init2 hs lo hi).getD 14 0 = ivL.getD 6 0 := by
  unfold init2; rw [getD_set_other _ _ _ _ (by omega), getD_set_other _ _ _ _ (by omega)]; exact join_get hs ivL 6 h
theorem init3_get (hs : List Int) (lo hi : Int) (la : Bool) (h : hs.length = 8) : (init3 hs lo hi la).getD 15 0 = ivL.getD 7 0 := by
  have h2 : (init2 hs lo hi).getD 15 0 = ivL.getD 7 0 := by
    unfold init2; rw [getD_set_other _ _ _ _ (by omega), getD_set_other _ _ _ _ (by omega)]; exact join_get hs ivL 7 h
  unfold init3; split
  · rw [getD_set_other _ _ _ _ (by omega)]; exact h2
  · exact h2
theorem xo_comm (a b : Int) : xo a b = xo b a := by
  unfold xo
  rw [xor32, xor32, BitVec.xor_comm]
/-- What the rounds begin with: of a chain, a count and two flags. -/
def beginL (hs : List Int) (n : Int) (la no : Bool) : List Int := initL hs (n % 4294967296) (n / 4294967296) la no
theorem beginL_length (hs : List Int) (n : Int) (la no : Bool) (h : hs.length = 8) : (beginL hs n la no).length = 16 := initL_length _ _ _ _ _ h
theorem W_mod (n : Int) : W (n % 4294967296) := ⟨by omega, by omega⟩
theorem beginL_Ws {hs : List Int} {n : Int} (la no : Bool) (h : Ws hs) (wn : 0 ≤ n) (wn' : n < 18446744073709551616) : Ws (beginL hs n la no) := initL_Ws la no h (W_mod _) ⟨by omega, by omega⟩
end MX
end Go.Proofs.YtecepllidmkmhabDoor
