/-
  The line that shows parameters, as a list of bytes: plain facts.
-/
import Derived.Test.YteakoajkmcbilabDoorRowShow
namespace Go.Proofs.YteakoajkmcbilabDoor
open Go.RowKit
set_option linter.unusedVariables false
set_option linter.unusedSimpArgs false
namespace LW
open Words
/-- The number that decimal digits tell. -/
def dval (l : List Int) : Int := l.foldl (fun a z => a * 10 + (z - 48)) 0
theorem dval_snoc (l : List Int) (z : Int) : dval (l ++ [z]) = dval l * 10 + (z - 48) := by simp [dval]
theorem dval_dcs (n : Nat) : dval (dcs n) = n := by
  induction n using Nat.strongRecOn with
  | _ n ih =>
    by_cases h : n < 10
    · rw [dcs_small n h]; simp [dval]; omega
    · rw [dcs_great n h, dval_snoc, ih (n / 10) (by omega)]; omega
theorem dcs_inj {a b : Nat} (h : dcs a = dcs b) : a = b := by
  have := congrArg dval h
  rw [dval_dcs, dval_dcs] at this
  omega
theorem dcs_byt (n : Nat) : Byt (dcs n) := by
  induction n using Nat.strongRecOn with
  | _ n ih =>
    by_cases h : n < 10
    · rw [dcs_small n h]; exact Byt.mk (by omega) (by omega) Byt.nil
    · rw [dcs_great n h]; exact (ih (n / 10) (by omega)).append (Byt.mk (by omega) (by omega) Byt.nil)
theorem dcs_len (d n : Nat) (h : n < 10 ^ (d + 1)) : (dcs n).length ≤ d + 1 := by
  induction d generalizing n with
  | zero => rw [dcs_small n (by simpa using h)]; simp
  | succ d ih =>
    by_cases h1 : n < 10
    · rw [dcs_small n h1]; simp
    · have := ih (n / 10) (by rw [Nat.pow_succ] at h; omega)
      rw [dcs_great n h1, List.length_append, List.length_singleton]; omega
theorem dcs_len64 (n : Nat) (h : n < 18446744073709551616) : (dcs n).length ≤ 20 := dcs_len 19 n (by omega)
theorem dg_bd (x : Int) (h0 : 0 ≤ x) (h1 : x < 16) : 0 ≤ dg x ∧ dg x < 256 := by
  unfold dg; split <;> omega
theorem hx_byt {s : List Int} (h : Byt s) : Byt (hx s) := by
  induction s with
  | nil => exact Byt.nil
  | cons z l ih =>
    obtain ⟨hz, hl⟩ := h.cons
    have h1 := dg_bd (z / 16) (by omega) (by omega)
    have h2 := dg_bd (z % 16) (by omega) (by omega)
    exact Byt.mk h1.1 h1.2 (Byt.mk h2.1 h2.2 (ih hl))
theorem hx_nil {s : List Int} (h : hx s = hx []) : s = [] := by
  have h0 := congrArg List.length h
  rw [hx_length, hx_length, List.length_nil] at h0
  exact List.length_eq_zero_iff.1 (by omega)
theorem strOf_inj {a b : List Int} (ha : Byt a) (hb : Byt b) (h : strOfNums a = strOfNums b) : a = b := by
  have h1 : (a.map fun n => UInt8.ofNat n.toNat) = b.map fun n => UInt8.ofNat n.toNat := by
    have := congrArg (fun x : ByteArray => x.data.toList) h
    simpa [strOfNums] using this
  have key : ∀ l : List Int, Byt l → (l.map fun n => UInt8.ofNat n.toNat).map (fun u : UInt8 => (u.toNat : Int)) = l := by
    intro l hl
    induction l with
    | nil => rfl
    | cons z l ih =>
      obtain ⟨hz, hl'⟩ := hl.cons
      simp only [List.map_cons]
      rw [ih hl']
      congr 1
      rw [UInt8.toNat_ofNat']
      omega
  rw [← key a ha, ← key b hb, h1]
theorem strOf_eqT {a b : List Int} (h : a = b) : ((strOfNums a).toList == (strOfNums b).toList) = true := by rw [h]; simp
theorem strOf_eqF {a b : List Int} (ha : Byt a) (hb : Byt b) (h : ¬ a = b) : ((strOfNums a).toList == (strOfNums b).toList) = false := by
  have : ¬ (strOfNums a).toList = (strOfNums b).toList := fun e => h (strOf_inj ha hb (by
    apply ByteArray.ext
    apply Array.ext'
    rw [ByteArray.toList_eq, ByteArray.toList_eq] at e
    exact e))
  simpa using this
/-- The parameters of a line that says none. -/
def usP (kd : Int) : Pm := ⟨mo kd, 0, 1, 1, 0, 0, 0, 0, 0⟩
theorem usP_ck (kd : Int) (h : kd = 1 ∨ kd = 2) : (usP kd).ck kd 0 0 = 0 := by
  rcases h with rfl | rfl <;> decide
theorem usP_ok (kd : Int) : (usP kd).Ok := ⟨by simp [usP], by simp [usP], by simp [usP], by simp [usP], by simp [usP], by simp [usP]⟩
theorem usP_may (kd : Int) (h : kd = 1 ∨ kd = 2) : (usP kd).May := may_of_ck (usP_ck kd h)
/-- A field's name. -/
def nmL (f : Int) : List Int := if f = 1 then [100, 105, 103, 101, 115, 116] else if f = 2 then [107, 101, 121] else if f = 3 then [102, 97, 110, 111, 117, 116] else if f = 4 then [100, 101, 112, 116, 104] else if f = 5 then [108, 101, 97, 102] else if f = 6 then [111, 102, 102, 115, 101, 116] else if f = 7 then [120, 111, 102] else if f = 8 then [110, 111, 100, 101] else if f = 9 then [105, 110, 110, 101, 114] else if f = 10 then [115, 97, 108, 116] else [112, 101, 114, 115, 111, 110, 97, 108]
theorem nmOf_eq (f : Int) (h1 : 1 ≤ f) (h2 : f ≤ 11) : nmOf f = strOfNums (nmL f) := by
  rcases fieldCases f h1 h2 with rfl | rfl | rfl | rfl | rfl | rfl | rfl | rfl | rfl | rfl | rfl <;> rfl
theorem nmL_len (f : Int) : (nmL f).length ≤ 8 := by
  unfold nmL; repeat' split
  all_goals simp
theorem nmL_byt (f : Int) : Byt (nmL f) := by
  unfold nmL; repeat' split
  all_goals (intro z hz; simp at hz; omega)
theorem shV_byt (p : Pm) {s t : List Int} (hs : Byt s) (ht : Byt t) (f : Int) : Byt (shV p s t f) := by
  unfold shV; split
  · exact hx_byt hs
  · split
    · exact hx_byt ht
    · exact dcs_byt _
theorem shV_len (p : Pm) (hp : p.Ok) (hm : p.May) {s t : List Int} (ls : s.length ≤ 64) (lt : t.length ≤ 64) (f : Int) (h1 : 1 ≤ f) (h2 : f ≤ 11) : (shV p s t f).length ≤ 128 := by
  unfold shV; split
  · rw [hx_length]; omega
  · split
    · rw [hx_length]; omega
    · have := nv_bd p hp hm f h1 (by omega)
      have := dcs_len64 (p.nv f).toNat (by omega)
      omega
/-- A field's word, with the blank ahead of it. -/
def wdL (p : Pm) (s t : List Int) (f : Int) : List Int := [32] ++ nmL f ++ [61] ++ shV p s t f
theorem wdL_byt (p : Pm) {s t : List Int} (hs : Byt s) (ht : Byt t) (f : Int) : Byt (wdL p s t f) :=
  (((Byt.mk (by omega) (by omega) Byt.nil : Byt [32]).append (nmL_byt f)).append (Byt.mk (by omega) (by omega) Byt.nil : Byt [61])).append (shV_byt p hs ht f)
/-- A kind's name. -/
def knL (kd : Int) : List Int := if kd = 2 then [50, 115] else [50, 98]
theorem knL_byt (kd : Int) : Byt (knL kd) := by
  unfold knL; split
  all_goals (intro z hz; simp at hz; omega)
/-- Is the field's value the usual one? -/
def usB (kd : Int) (p : Pm) (s t : List Int) (f : Int) : Bool := decide (shV p s t f = shV (usP kd) [] [] f)
/-- The line that says the first k fields. -/
def lnL (kd : Int) (p : Pm) (s t : List Int) : Nat → List Int
  | 0 => knL kd
  | k + 1 => lnL kd p s t k ++ (if usB kd p s t ((k : Int) + 1) = true then [] else wdL p s t ((k : Int) + 1))
theorem lnL_eq {kd : Int} {p : Pm} {s t : List Int} {k : Nat} (h : usB kd p s t ((k : Int) + 1) = true) : lnL kd p s t (k + 1) = lnL kd p s t k := by rw [lnL, if_pos h, List.append_nil]
theorem lnL_ne {kd : Int} {p : Pm} {s t : List Int} {k : Nat} (h : usB kd p s t ((k : Int) + 1) = false) : lnL kd p s t (k + 1) = lnL kd p s t k ++ wdL p s t ((k : Int) + 1) := by rw [lnL, if_neg (by rw [h]; decide)]
theorem lnL_byt (kd : Int) (p : Pm) {s t : List Int} (hs : Byt s) (ht : Byt t) (k : Nat) : Byt (lnL kd p s t k) := by
  induction k with
  | zero => exact knL_byt kd
  | succ k ih =>
    rw [lnL]
    refine ih.append ?_
    split
    · exact Byt.nil
    · exact wdL_byt p hs ht _
theorem lnL_len (kd : Int) (p : Pm) (hp : p.Ok) (hm : p.May) {s t : List Int} (ls : s.length ≤ 64) (lt : t.length ≤ 64) (k : Nat) (hk : k ≤ 11) : (lnL kd p s t k).length ≤ 2 + 200 * k := by
  induction k with
  | zero => simp [lnL, knL]; split <;> simp
  | succ k ih =>
    have := ih (by omega)
    have h1 := shV_len p hp hm ls lt ((k : Int) + 1) (by omega) (by omega)
    have h2 := nmL_len ((k : Int) + 1)
    rw [lnL, List.length_append]
    split
    · simp; omega
    · simp [wdL]; omega
theorem usB_num {kd : Int} (hk : kd = 1 ∨ kd = 2) {p : Pm} (hp : p.Ok) (hm : p.May) (s t : List Int) {f : Int} (h1 : 1 ≤ f) (h9 : f ≤ 9) : usB kd p s t f = decide (p.nv f = (usP kd).nv f) := by
  have b1 := nv_bd p hp hm f h1 h9
  have b2 := nv_bd (usP kd) (usP_ok kd) (usP_may kd hk) f h1 h9
  unfold usB shV
  rw [if_neg (by omega), if_neg (by omega), if_neg (by omega), if_neg (by omega)]
  by_cases h : p.nv f = (usP kd).nv f
  · simp [h]
  · have : ¬ dcs (p.nv f).toNat = dcs ((usP kd).nv f).toNat := fun e => h (by have := dcs_inj e; omega)
    simp [h, this]
theorem usB_salt (kd : Int) (p : Pm) (s t : List Int) : usB kd p s t 10 = decide (s.length = 0) := by
  have e : (shV p s t 10 = shV (usP kd) [] [] 10) ↔ s.length = 0 := by
    simp only [shV, if_true]
    constructor
    · intro h; rw [hx_nil h]; rfl
    · intro h; rw [List.length_eq_zero_iff.1 h]
  unfold usB; simp only [e]
theorem usB_pers (kd : Int) (p : Pm) (s t : List Int) : usB kd p s t 11 = decide (t.length = 0) := by
  have e : (shV p s t 11 = shV (usP kd) [] [] 11) ↔ t.length = 0 := by
    simp only [shV, show ((11 : Int) = 10) = False by simp, if_false, if_true]
    constructor
    · intro h; rw [hx_nil h]; rfl
    · intro h; rw [List.length_eq_zero_iff.1 h]
  unfold usB; simp only [e]
/-- What Show tells: the line and the error. -/
def shL (E kd : Int) (p : Pm) (s t : List Int) : List Int := if E = 0 then lnL kd p (tr s) (tr t) 11 else []
end LW
end Go.Proofs.YteakoajkmcbilabDoor
