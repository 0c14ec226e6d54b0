/-
  Reading a line that Show writes: readLine, settle, Read.
-/
import Derived.Test.YteakoajkmcbilabDoorRdA
import Derived.Test.YteakoajkmcbilabDoorUnsaid
import Derived.Test.YteakoajkmcbilabDoorPair
import Derived.Deep.MidRow
import Derived.Defers
import Derived.Recover
namespace Go.Proofs.YteakoajkmcbilabDoor
open Go.RowKit Go.Shelf
set_option linter.unusedVariables false
set_option linter.unusedSimpArgs false
namespace LW
open Words Txt
/-- A number once the first J fields are read. -/
def mv (kd : Int) (p : Pm) (J f : Nat) : Int := if f ≤ J then p.nv f else (usP kd).nv f
/-- Bytes once the first J fields are read. -/
def sJ (n J : Nat) (S : List Int) : List Int := if n ≤ J then S else []
theorem wsN_cases (kd : Int) (p : Pm) (s t : List Int) (n : Nat) (hn : n ≤ 11) :
    (wsN kd p s t n = [] ∧ ∀ q, 11 - n ≤ q → q < 11 → usB kd p s t ((q : Int) + 1) = true) ∨
    ∃ k, 11 - n ≤ k ∧ k < 11 ∧ (∀ q, 11 - n ≤ q → q < k → usB kd p s t ((q : Int) + 1) = true) ∧ wsN kd p s t n = wordL p s t ((k : Int) + 1) :: wsN kd p s t (11 - (k + 1)) := by
  induction n with
  | zero => exact .inl ⟨rfl, fun q h1 h2 => by omega⟩
  | succ n ih =>
    have e : (((11 - (n + 1) : Nat) : Int) + 1) = 11 - (n : Int) := by omega
    by_cases hu : usB kd p s t (11 - (n : Int)) = true
    · have e0 : wsN kd p s t (n + 1) = wsN kd p s t n := by rw [wsN, if_pos hu, List.nil_append]
      rw [e0]
      have hq : ∀ q, 11 - (n + 1) ≤ q → ¬ 11 - n ≤ q → usB kd p s t ((q : Int) + 1) = true := fun q h1 h2 => by
        obtain rfl : q = 11 - (n + 1) := by omega
        rw [e]; exact hu
      rcases ih (by omega) with ⟨h1, h2⟩ | ⟨k, h1, h2, h3, h4⟩
      · refine .inl ⟨h1, fun q a b => ?_⟩
        by_cases hc : 11 - n ≤ q
        · exact h2 q hc b
        · exact hq q a hc
      · refine .inr ⟨k, by omega, h2, fun q a b => ?_, h4⟩
        by_cases hc : 11 - n ≤ q
        · exact h3 q hc b
        · exact hq q a hc
    · refine .inr ⟨11 - (n + 1), Nat.le_refl _, by omega, fun q a b => by omega, ?_⟩
      rw [wsN, if_neg hu, e, show 11 - (11 - (n + 1) + 1) = n by omega]
      rfl
/-- What the line's cells say once the first J fields are read. -/
structure Lg (w : World) (g : Nat) (kd : Int) (p : Pm) (S T : List Int) (J : Nat) (cs : Array Value) (r : Nat) (a1 a2 : Option Addr) (c1 c2 : Nat) : Prop where
  lc : Lc w g cs
  kind : cs[0]? = some (.int .i64 kd)
  num : ∀ f : Nat, 1 ≤ f → f ≤ 9 → cs[f]? = some (nk f (mv kd p J f))
  salt : cs[10]? = some (.slice a1 (sJ 10 J S).length c1)
  pers : cs[11]? = some (.slice a2 (sJ 11 J T).length c2)
  s : Pn w (g + 1) a1 c1 (sJ 10 J S)
  t : Pn w (g + 1) a2 c2 (sJ 11 J T)
  rows : cs[23]? = some (.int .i64 r)
  le : r ≤ J
  wide : cs[25]? = some (.int .i64 0)
/-- The same, whatever else the line holds. -/
def Lgs (w : World) (g : Nat) (kd : Int) (p : Pm) (S T : List Int) (J : Nat) : Prop := ∃ cs r a1 a2 c1 c2, Lg w g kd p S T J cs r a1 a2 c1 c2
theorem set3 {cs : Array Value} (h : cs.size = 26) {i j : Nat} {v a b : Value} (q : Nat) (hq : q < 26) (h1 : q ≠ i) (h2 : q ≠ j) (h3 : q ≠ 23) : (((cs.setIfInBounds i v).setIfInBounds j a).setIfInBounds 23 b)[q]? = cs[q]? := by
  rw [Array.getElem?_setIfInBounds_ne (Ne.symm h3), Array.getElem?_setIfInBounds_ne (Ne.symm h2), Array.getElem?_setIfInBounds_ne (Ne.symm h1)]
theorem set3i {cs : Array Value} (h : cs.size = 26) {i j : Nat} {v a b : Value} (hi : i < 12) (hj : 12 ≤ j) : (((cs.setIfInBounds i v).setIfInBounds j a).setIfInBounds 23 b)[i]? = some v := by
  rw [Array.getElem?_setIfInBounds_ne (by omega), Array.getElem?_setIfInBounds_ne (by omega), Array.getElem?_setIfInBounds_self_of_lt (by omega)]
theorem mv_step {kd : Int} (hk : kd = 1 ∨ kd = 2) {p : Pm} (hp : p.Ok) (hm : p.May) {S T : List Int} {J K : Nat} (hu : ∀ q, J ≤ q → q < K → usB kd p S T ((q : Int) + 1) = true) {f : Nat} (h1 : 1 ≤ f) (h9 : f ≤ 9) (hne : J ≤ K) (hf : f ≤ K ∨ K < f) :
    mv kd p J f = mv kd p K f := by
  unfold mv
  by_cases h : f ≤ J
  · rw [if_pos h, if_pos (by omega)]
  · rw [if_neg h]
    by_cases h2 : f ≤ K
    · rw [if_pos h2]
      have := hu (f - 1) (by omega) (by omega)
      rw [show (((f - 1 : Nat) : Int) + 1) = (f : Int) by omega, usB_num hk hp hm S T (by omega) (by omega)] at this
      exact (of_decide_eq_true this).symm
    · rw [if_neg h2]
theorem sJ_step {kd : Int} {p : Pm} {S T : List Int} {J K : Nat} (hu : ∀ q, J ≤ q → q < K → usB kd p S T ((q : Int) + 1) = true) (hne : J ≤ K) : sJ 10 J S = sJ 10 K S ∧ sJ 11 J T = sJ 11 K T := by
  unfold sJ
  constructor
  · by_cases h : 10 ≤ J
    · rw [if_pos h, if_pos (by omega)]
    · rw [if_neg h]
      by_cases h2 : 10 ≤ K
      · rw [if_pos h2]
        have := hu 9 (by omega) (by omega)
        rw [show (((9 : Nat) : Int) + 1) = 10 by omega, usB_salt] at this
        exact (List.length_eq_zero_iff.1 (of_decide_eq_true this)).symm
      · rw [if_neg h2]
  · by_cases h : 11 ≤ J
    · rw [if_pos h, if_pos (by omega)]
    · rw [if_neg h]
      by_cases h2 : 11 ≤ K
      · rw [if_pos h2]
        have := hu 10 (by omega) (by omega)
        rw [show (((10 : Nat) : Int) + 1) = 11 by omega, usB_pers] at this
        exact (List.length_eq_zero_iff.1 (of_decide_eq_true this)).symm
      · rw [if_neg h2]
/-- What is as usual need not be said. -/
theorem Lg.skip {w : World} {g : Nat} {kd : Int} {p : Pm} {S T : List Int} {J K : Nat} {cs : Array Value} {r : Nat} {a1 a2 : Option Addr} {c1 c2 : Nat} (h : Lg w g kd p S T J cs r a1 a2 c1 c2) (hk : kd = 1 ∨ kd = 2) (hp : p.Ok) (hm : p.May) (hJ : J ≤ K)
    (hu : ∀ q, J ≤ q → q < K → usB kd p S T ((q : Int) + 1) = true) : Lg w g kd p S T K cs r a1 a2 c1 c2 := by
  obtain ⟨e1, e2⟩ := sJ_step hu hJ
  refine ⟨h.lc, h.kind, fun f h1 h9 => ?_, ?_, ?_, ?_, ?_, h.rows, Nat.le_trans h.le hJ, h.wide⟩
  · rw [h.num f h1 h9, mv_step hk hp hm hu h1 h9 hJ (by omega)]
  · rw [← e1]; exact h.salt
  · rw [← e2]; exact h.pers
  · rw [← e1]; exact h.s
  · rw [← e2]; exact h.t
end LW
end Go.Proofs.YteakoajkmcbilabDoor
namespace Go.Proofs.YteakoajkmcbilabDoor
open Go.RowKit Go.Shelf
set_option linter.unusedVariables false
set_option linter.unusedSimpArgs false
namespace LW
open Words Txt
theorem Pn.set3 {w : World} {B : Nat} {a : Option Addr} {c : Nat} {s : List Int} (h : Pn w B a c s) {g i j k : Nat} (hg : g < B) (u v x : Value) : Pn (((w.setCell ⟨g, i, none⟩ u).setCell ⟨g, j, none⟩ v).setCell ⟨g, k, none⟩ x) B a c s := ((h.set hg u).set hg v).set hg x
theorem below_set3 {B g i j k : Nat} {w Z : World} {u v x : Value} (h : Below w.heap.size w Z) (hB : B ≤ w.heap.size) (hg : B ≤ g) : Below B w (((Z.setCell ⟨g, i, none⟩ u).setCell ⟨g, j, none⟩ v).setCell ⟨g, k, none⟩ x) :=
  (((h.mono hB).setCell hg _).setCell hg _).setCell hg _
theorem Lg.nextN {w Z : World} {g : Nat} {kd : Int} {p : Pm} {S T : List Int} {k : Nat} {cs : Array Value} {r : Nat} {a1 a2 : Option Addr} {c1 c2 : Nat} (h : Lg w g kd p S T k cs r a1 a2 c1 c2) (hb : Below w.heap.size w Z) (hk : k < 9) (x : Value) :
    Lgs (((Z.setCell ⟨g, k + 1, none⟩ (nk ((k : Int) + 1) (p.nv ((k : Int) + 1)))).setCell ⟨g, 12 + k, none⟩ x).setCell ⟨g, 23, none⟩ (.int .i64 ((k : Int) + 1))) g kd p S T (k + 1) := by
  have hz := h.lc.size
  refine ⟨_, k + 1, a1, a2, c1, c2, (((h.lc.below hb).set (k + 1) _).set (12 + k) x).set 23 _, ?_, fun f h1 h9 => ?_, ?_, ?_, ?_, ?_, ?_, Nat.le_refl _, ?_⟩
  · rw [LW.set3 hz 0 (by omega) (by omega) (by omega) (by omega)]; exact h.kind
  · by_cases hf : f = k + 1
    · subst hf
      rw [LW.set3i hz (by omega) (by omega), mv, if_pos (Nat.le_refl _)]
      rfl
    · rw [LW.set3 hz f (by omega) hf (by omega) (by omega), h.num f h1 h9]
      unfold mv
      by_cases h2 : f ≤ k
      · rw [if_pos h2, if_pos (by omega)]
      · rw [if_neg h2, if_neg (by omega)]
  · rw [LW.set3 hz 10 (by omega) (by omega) (by omega) (by omega), h.salt, sJ, sJ, if_neg (by omega), if_neg (by omega)]
  · rw [LW.set3 hz 11 (by omega) (by omega) (by omega) (by omega), h.pers, sJ, sJ, if_neg (by omega), if_neg (by omega)]
  · have e : sJ 10 (k + 1) S = sJ 10 k S := by rw [sJ, sJ, if_neg (by omega), if_neg (by omega)]
    rw [e]; exact (h.s.below hb).set3 (by omega) _ _ _
  · have e : sJ 11 (k + 1) T = sJ 11 k T := by rw [sJ, sJ, if_neg (by omega), if_neg (by omega)]
    rw [e]; exact (h.t.below hb).set3 (by omega) _ _ _
  · rw [Array.getElem?_setIfInBounds_self_of_lt (by simp [hz])]
    simp
  · rw [LW.set3 hz 25 (by omega) (by omega) (by omega) (by omega)]; exact h.wide
theorem Lg.nextS {w Z : World} {g : Nat} {kd : Int} {p : Pm} {S T : List Int} {cs : Array Value} {r : Nat} {a1 a2 : Option Addr} {c1 c2 : Nat} (h : Lg w g kd p S T 9 cs r a1 a2 c1 c2) (hb : Below w.heap.size w Z) {a : Option Addr} {c : Nat} (hS : Pn Z (g + 1) a c S) (x : Value) :
    Lgs (((Z.setCell ⟨g, 9 + 1, none⟩ (.slice a S.length c)).setCell ⟨g, 12 + 9, none⟩ x).setCell ⟨g, 23, none⟩ (.int .i64 (((9 : Nat) : Int) + 1))) g kd p S T (9 + 1) := by
  have hz := h.lc.size
  refine ⟨_, 10, a, a2, c, c2, (((h.lc.below hb).set (9 + 1) _).set (12 + 9) x).set 23 _, ?_, fun f h1 h9 => ?_, ?_, ?_, ?_, ?_, ?_, Nat.le_refl _, ?_⟩
  · rw [LW.set3 hz 0 (by omega) (by omega) (by omega) (by omega)]; exact h.kind
  · rw [LW.set3 hz f (by omega) (by omega) (by omega) (by omega), h.num f h1 h9]
    unfold mv
    rw [if_pos h9, if_pos (by omega)]
  · rw [LW.set3i hz (by omega) (by omega), sJ, if_pos (by omega)]
  · rw [LW.set3 hz 11 (by omega) (by omega) (by omega) (by omega), h.pers, sJ, sJ, if_neg (by omega), if_neg (by omega)]
  · have e : sJ 10 (9 + 1) S = S := by rw [sJ, if_pos (by omega)]
    rw [e]; exact hS.set3 (by omega) _ _ _
  · have e : sJ 11 (9 + 1) T = sJ 11 9 T := by rw [sJ, sJ, if_neg (by omega), if_neg (by omega)]
    rw [e]; exact (h.t.below hb).set3 (by omega) _ _ _
  · rw [Array.getElem?_setIfInBounds_self_of_lt (by simp [hz])]
    simp
  · rw [LW.set3 hz 25 (by omega) (by omega) (by omega) (by omega)]; exact h.wide
theorem Lg.nextT {w Z : World} {g : Nat} {kd : Int} {p : Pm} {S T : List Int} {cs : Array Value} {r : Nat} {a1 a2 : Option Addr} {c1 c2 : Nat} (h : Lg w g kd p S T 10 cs r a1 a2 c1 c2) (hb : Below w.heap.size w Z) {a : Option Addr} {c : Nat} (hS : Pn Z (g + 1) a c T) (x : Value) :
    Lgs (((Z.setCell ⟨g, 10 + 1, none⟩ (.slice a T.length c)).setCell ⟨g, 12 + 10, none⟩ x).setCell ⟨g, 23, none⟩ (.int .i64 (((10 : Nat) : Int) + 1))) g kd p S T (10 + 1) := by
  have hz := h.lc.size
  refine ⟨_, 11, a1, a, c1, c, (((h.lc.below hb).set (10 + 1) _).set (12 + 10) x).set 23 _, ?_, fun f h1 h9 => ?_, ?_, ?_, ?_, ?_, ?_, Nat.le_refl _, ?_⟩
  · rw [LW.set3 hz 0 (by omega) (by omega) (by omega) (by omega)]; exact h.kind
  · rw [LW.set3 hz f (by omega) (by omega) (by omega) (by omega), h.num f h1 h9]
    unfold mv
    rw [if_pos (by omega), if_pos (by omega)]
  · rw [LW.set3 hz 10 (by omega) (by omega) (by omega) (by omega), h.salt, sJ, sJ, if_pos (by omega), if_pos (by omega)]
  · rw [LW.set3i hz (by omega) (by omega), sJ, if_pos (by omega)]
  · have e : sJ 10 (10 + 1) S = sJ 10 10 S := by rw [sJ, sJ, if_pos (by omega), if_pos (by omega)]
    rw [e]; exact (h.s.below hb).set3 (by omega) _ _ _
  · have e : sJ 11 (10 + 1) T = T := by rw [sJ, if_pos (by omega)]
    rw [e]; exact hS.set3 (by omega) _ _ _
  · rw [Array.getElem?_setIfInBounds_self_of_lt (by simp [hz])]
    simp
  · rw [LW.set3 hz 25 (by omega) (by omega) (by omega) (by omega)]; exact h.wide
theorem nv_small (p : Pm) (hp : p.Ok) (hm : p.May) (f : Int) (h1 : 1 ≤ f) (h9 : f ≤ 9) : (f ≠ 6 → p.nv f < 4294967296) ∧ (f ≠ 6 → f ≠ 5 → f ≠ 7 → p.nv f ≤ 255) := by
  obtain ⟨o0, o1, x0, x1, l0, l1⟩ := hp
  obtain ⟨d0, d1, k0, k1, f0, f1, e0, e1, n0, n1, i0, i1⟩ := hm
  have : f = 1 ∨ f = 2 ∨ f = 3 ∨ f = 4 ∨ f = 5 ∨ f = 6 ∨ f = 7 ∨ f = 8 ∨ f = 9 := by omega
  rcases this with rfl | rfl | rfl | rfl | rfl | rfl | rfl | rfl | rfl
  all_goals
    constructor
    · intro _; simp [Pm.nv, LW.nv]; omega
    · intro _ _ _; simp [Pm.nv, LW.nv]; omega
theorem readFs (g k : Nat) (kd : Int) (p : Pm) (hp : p.Ok) (hm : p.May) (S T : List Int) (hS : Byt S) (hT : Byt T) (lS : S.length ≤ 64) (lT : T.length ≤ 64) (at_ m : Int) (cs : Array Value) (r : Nat) (a1 a2 : Option Addr) (c1 c2 : Nat) (w : World) (h : Lg w g kd p S T k cs r a1 a2 c1 c2) (hk : k < 11)
    (hmx : ∀ W, Below w.heap.size w W → W.cell? ⟨1, 0, none⟩ = some (.int .i64 m)) (htab : ∀ W, Below w.heap.size w W → Tab10 W) :
    Calls Tryd.prog 64 #[.pointer (some ⟨g, 0, none⟩), .string (strOfNums (wordL p S T ((k : Int) + 1))), .int .i64 at_] w fun e w' => e = .returned (.tuple #[]) ∧ Lgs w' g kd p S T (k + 1) ∧ Below g w w' := by
  have hgl := h.lc.lt
  have hvl := shV_len p hp hm lS lT ((k : Int) + 1) (by omega) (by omega)
  by_cases h9 : k < 9
  · have hb := nv_bd p hp hm ((k : Int) + 1) (by omega) (by omega)
    have hsm := nv_small p hp hm ((k : Int) + 1) (by omega) (by omega)
    have hsh : shV p S T ((k : Int) + 1) = dcs (p.nv ((k : Int) + 1)).toNat := by
      unfold shV; rw [if_neg (by omega), if_neg (by omega)]
    have hn : (((p.nv ((k : Int) + 1)).toNat : Nat) : Int) = p.nv ((k : Int) + 1) := by omega
    have hR := readF g cs k r (shV p S T ((k : Int) + 1)) at_ m (fun Z val => val = nk ((k : Int) + 1) (p.nv ((k : Int) + 1))) w h.lc hk h.le (by omega) h.rows hmx (fun W hW => by
      rw [hsh]
      have := readVN g cs ((k : Int) + 1) (p.nv ((k : Int) + 1)).toNat at_ (.string (nmOf ((k : Int) + 1))) (.int .i64 (erOf ((k : Int) + 1))) (.int .i64 (rAt 1 ((k : Int) + 1))) (.int .i64 (rSz 1 ((k : Int) + 1))) (.int .i64 (rAt 2 ((k : Int) + 1))) (.int .i64 (rSz 2 ((k : Int) + 1))) W (h.lc.below hW) h.wide (by omega) (by omega)
        (fun h6 => by have := hsm.1 h6; omega) (fun a b c => by have := hsm.2 a b c; omega) (by omega) (fun Z hZ => htab Z (below_row hW hZ hW.size))
      rw [hn] at this
      refine this.mono ?_
      rintro e w' ⟨rfl, Z, hZ, rfl⟩
      exact ⟨rfl, Z, _, hZ, rfl, by rw [show (((k : Int) + 1)).toNat = k + 1 by omega]⟩)
    refine hR.mono ?_
    rintro e w' ⟨rfl, Z, val, hZ, rfl, rfl⟩
    exact ⟨rfl, h.nextN hZ h9 _, below_set3 hZ (by omega) (Nat.le_refl _)⟩
  · by_cases hk9 : k = 9
    · subst hk9
      have hsh : shV p S T (((9 : Nat) : Int) + 1) = hx S := by unfold shV; rw [if_pos (by omega)]
      have hR := readF g cs 9 r (shV p S T (((9 : Nat) : Int) + 1)) at_ m (fun Z val => ∃ a c, val = .slice a S.length c ∧ Pn Z (g + 1) a c S) w h.lc hk h.le (by omega) h.rows hmx (fun W hW => by
        rw [hsh]
        refine (readVB g cs 10 S at_ _ _ _ _ _ _ W (h.lc.below hW) (.inl rfl) hS lS).mono ?_
        rintro e w' ⟨rfl, Z, a, c, hZ, hP, rfl⟩
        exact ⟨rfl, Z, _, hZ, ⟨a, c, rfl, hP.mono (by have := hW.size; omega)⟩, rfl⟩)
      refine hR.mono ?_
      rintro e w' ⟨rfl, Z, val, hZ, ⟨a, c, rfl, hP⟩, rfl⟩
      exact ⟨rfl, h.nextS hZ hP _, below_set3 hZ (by omega) (Nat.le_refl _)⟩
    · obtain rfl : k = 10 := by omega
      have hsh : shV p S T (((10 : Nat) : Int) + 1) = hx T := by unfold shV; rw [if_neg (by omega), if_pos (by omega)]
      have hR := readF g cs 10 r (shV p S T (((10 : Nat) : Int) + 1)) at_ m (fun Z val => ∃ a c, val = .slice a T.length c ∧ Pn Z (g + 1) a c T) w h.lc hk h.le (by omega) h.rows hmx (fun W hW => by
        rw [hsh]
        refine (readVB g cs 11 T at_ _ _ _ _ _ _ W (h.lc.below hW) (.inr rfl) hT lT).mono ?_
        rintro e w' ⟨rfl, Z, a, c, hZ, hP, rfl⟩
        exact ⟨rfl, Z, _, hZ, ⟨a, c, rfl, hP.mono (by have := hW.size; omega)⟩, rfl⟩)
      refine hR.mono ?_
      rintro e w' ⟨rfl, Z, val, hZ, ⟨a, c, rfl, hP⟩, rfl⟩
      exact ⟨rfl, h.nextT hZ hP _, below_set3 hZ (by omega) (Nat.le_refl _)⟩
end LW
end Go.Proofs.YteakoajkmcbilabDoor
namespace Go.Proofs.YteakoajkmcbilabDoor
open Go.RowKit Go.Shelf
set_option linter.unusedVariables false
set_option linter.unusedSimpArgs false
namespace LW
open Words Txt
theorem wsN_len (kd : Int) (p : Pm) (s t : List Int) (n : Nat) : (wsN kd p s t n).length ≤ n := by
  induction n with
  | zero => simp [wsN]
  | succ n ih =>
    rw [wsN, List.length_append]
    split
    · simp; omega
    · simp; omega
theorem shV_num (p : Pm) (hp : p.Ok) (hm : p.May) (s t : List Int) (f : Int) (h1 : 1 ≤ f) (h9 : f ≤ 9) : (shV p s t f).length ≤ 20 := by
  unfold shV
  rw [if_neg (by omega), if_neg (by omega)]
  have := nv_bd p hp hm f h1 (by omega)
  exact dcs_len64 _ (by omega)
theorem ln_short (kd : Int) (p : Pm) (hp : p.Ok) (hm : p.May) (s t : List Int) (n : Nat) (hn : n ≤ 9) : (lnL kd p s t n).length ≤ 2 + 30 * n := by
  induction n with
  | zero => simp [lnL, knL]; split <;> simp
  | succ n ih =>
    have h0 := ih (by omega)
    have h1 := shV_num p hp hm s t ((n : Int) + 1) (by omega) (by omega)
    have h2 := nmL_len ((n : Int) + 1)
    rw [lnL, List.length_append]
    split
    · simp; omega
    · simp [wdL]; omega
theorem ln_fits (kd : Int) (p : Pm) (hp : p.Ok) (hm : p.May) (s t : List Int) (ls : s.length ≤ 16) (lt : t.length ≤ 16) : (lnL kd p s t 11).length ≤ 512 := by
  have h0 := ln_short kd p hp hm s t 9 (Nat.le_refl _)
  have e1 : (lnL kd p s t 10).length ≤ (lnL kd p s t 9).length + 42 := by
    rw [lnL, List.length_append]
    have h2 := nmL_len (((9 : Nat) : Int) + 1)
    have h3 : (shV p s t (((9 : Nat) : Int) + 1)).length ≤ 32 := by unfold shV; rw [if_pos (by omega), hx_length]; omega
    split
    · simp
    · simp [wdL] at *; omega
  have e2 : (lnL kd p s t 11).length ≤ (lnL kd p s t 10).length + 42 := by
    rw [lnL, List.length_append]
    have h2 := nmL_len (((10 : Nat) : Int) + 1)
    have h3 : (shV p s t (((10 : Nat) : Int) + 1)).length ≤ 32 := by unfold shV; rw [if_neg (by omega), if_pos (by omega), hx_length]; omega
    split
    · simp
    · simp [wdL] at *; omega
  omega
/-- A fresh line. -/
def lineZ (kd : Int) : Array Value := #[.int .i64 kd, .int .i64 0, .int .i64 0, .int .i64 0, .int .i64 0, .int .u32 0, .int .u64 0, .int .u32 0, .int .i64 0, .int .i64 0, .slice none 0 0, .slice none 0 0, .int .i64 0, .int .i64 0, .int .i64 0, .int .i64 0, .int .i64 0, .int .i64 0, .int .i64 0, .int .i64 0, .int .i64 0, .int .i64 0, .int .i64 0, .int .i64 0, .int .i64 0, .int .i64 0]
/-- A line that says what is as usual. -/
def lineU (kd : Int) : Array Value := ((((((((((((lineZ kd).setIfInBounds 1 (.int .i64 (mo kd))).setIfInBounds 2 (.int .i64 0)).setIfInBounds 3 (.int .i64 1)).setIfInBounds 4 (.int .i64 1)).setIfInBounds 5 (.int .u32 0)).setIfInBounds 6 (.int .u64 0)).setIfInBounds 7 (.int .u32 0)).setIfInBounds 8 (.int .i64 0)).setIfInBounds 9 (.int .i64 0)).setIfInBounds 10 (.slice none 0 0)).setIfInBounds 11 (.slice none 0 0))
theorem lineU_eq (kd : Int) : lineU kd = #[.int .i64 kd, .int .i64 (mo kd), .int .i64 0, .int .i64 1, .int .i64 1, .int .u32 0, .int .u64 0, .int .u32 0, .int .i64 0, .int .i64 0, .slice none 0 0, .slice none 0 0, .int .i64 0, .int .i64 0, .int .i64 0, .int .i64 0, .int .i64 0, .int .i64 0, .int .i64 0, .int .i64 0, .int .i64 0, .int .i64 0, .int .i64 0, .int .i64 0, .int .i64 0, .int .i64 0] := by kernel_rfl
theorem lineU_num (kd : Int) (p : Pm) (f : Nat) (h1 : 1 ≤ f) (h9 : f ≤ 9) : (lineU kd)[f]? = some (nk f (mv kd p 0 f)) := by
  rw [lineU_eq]
  have : f = 1 ∨ f = 2 ∨ f = 3 ∨ f = 4 ∨ f = 5 ∨ f = 6 ∨ f = 7 ∨ f = 8 ∨ f = 9 := by omega
  rcases this with rfl | rfl | rfl | rfl | rfl | rfl | rfl | rfl | rfl <;> rfl
theorem lineU_good {w : World} {g : Nat} (kd : Int) (p : Pm) (S T : List Int) (h : Lc w g (lineU kd)) : Lgs w g kd p S T 0 := by
  have e1 : sJ 10 0 S = [] := rfl
  have e2 : sJ 11 0 T = [] := rfl
  refine ⟨_, 0, none, none, 0, 0, h, (by rw [lineU_eq]; rfl), fun f h1 h9 => lineU_num kd p f h1 h9, ?_, ?_, ?_, ?_, (by rw [lineU_eq]; rfl), Nat.le_refl _, (by rw [lineU_eq]; rfl)⟩
  · rw [e1, lineU_eq]; rfl
  · rw [e2, lineU_eq]; rfl
  · rw [e1]; exact Pn_nil _ _
  · rw [e2]; exact Pn_nil _ _
set_option maxRecDepth 100000 in
set_option maxHeartbeats 4000000 in
theorem readL (kd : Int) (hk : kd = 1 ∨ kd = 2) (p : Pm) (hp : p.Ok) (hm : p.May) (S T : List Int) (hS : Byt S) (hT : Byt T) (lS : S.length ≤ 16) (lT : T.length ≤ 16) (m : Int) (w : World)
    (hmx : ∀ W, Below w.heap.size w W → W.cell? ⟨1, 0, none⟩ = some (.int .i64 m)) (htab : ∀ W, Below w.heap.size w W → Tab10 W) :
    Calls Tryd.prog 30 #[.string (strOfNums (lnL kd p S T 11))] w fun e w' => ∃ g, e = .returned (.pointer (some ⟨g, 0, none⟩)) ∧ w.heap.size ≤ g ∧ Lgs w' g kd p S T 11 ∧ Below w.heap.size w w' := by
  have hlen := ln_fits kd p hp hm S T lS lT
  rw [ln_all] at hlen ⊢
  have hSP := split_ (knL kd) (wsN kd p S T 11) m w (knL_ok kd) (wsN_ok kd p hS hT 11) hlen (hmx _ (Below.refl _ _))
  have HK1 := TW.hide (fun W => readK kd hk W)
  have HU : Hid (∀ W : World, Calls Tryd.prog 20 #[.int .i64 kd] W fun e w' => e = .returned (.agg #[.int .i64 (mo kd), .int .i64 0, .int .i64 1, .int .i64 1, .int .u32 0, .int .u64 0, .int .u32 0, .int .i64 0, .int .i64 0, .slice none 0 0, .slice none 0 0]) ∧ Below W.heap.size W w') := fun W => unsaid kd hk W
  have HSP := TW.hide hSP
  clear hSP
  generalize hws : wsN kd p S T 11 = ws at *
  generalize strOfNums (knL kd ++ joinI ws) = line at *
  have HWS := TW.hide hws
  clear hws hlen
  have hfirst : (((((knL kd :: ws).map strOfNums).map Value.string).toArray)[0]?) = some (.string (strOfNums (knL kd))) := by simp
  have hlater : ∀ i v, ws[i]? = some v → (((((knL kd :: ws).map strOfNums).map Value.string).toArray)[1 + i]?) = some (.string (strOfNums v)) := fun i v h => by
    rw [Nat.add_comm]; simp [h]
  generalize hcw : (((knL kd :: ws).map strOfNums).map Value.string).toArray = cw at *
  have HF := TW.hide hfirst
  have HLT := TW.hide hlater
  clear hfirst hlater hcw
  have hksz : (strOfNums (knL kd)).size = 2 := by rw [strOf_size]; rcases hk with rfl | rfl <;> rfl
  generalize strOfNums (knL kd) = kn at *
  go_enter Tryd.func30, Tryd.ntmps30
  refine wp_seq_k fun KK hK => ?_
  have HK := TW.hide hK
  clear hK
  go_wp2
  refine HK.out _ _ ?_
  clear HK KK
  refine wp_seq_k fun KK hK => ?_
  have HK := TW.hide hK
  clear hK
  go_wp2_with fail
  refine HSP.out.mono ?_
  rintro e w1 ⟨rfl, rfl⟩
  have W1 := TW.hide (heap_alloc_new w (.cells cw 9))
  have B1 : Hid (Below w.heap.size w (w.alloc (.cells cw 9))) := (Below.refl _ _).alloc (Nat.le_refl _) _
  have hs1 : (w.alloc (.cells cw 9)).heap.size = w.heap.size + 1 := by simp
  generalize w.alloc (.cells cw 9) = X1 at *
  generalize hwb : w.heap.size = wb at *
  go_wp2_with fail
  refine HK.out _ _ ?_
  clear HK KK
  have cf : X1.cell? ⟨wb, 0, none⟩ = some (.string kn) := blk_cell W1.out HF.out
  have hN : (0 : Int) < ((ws.length : Int) + 1) := by omega
  refine wp_seq_k fun KK hK => ?_
  have HK := TW.hide hK
  clear hK
  go_wp2_with fail
  refine (HK1.out _).mono ?_
  rintro e w2 ⟨rfl, rfl⟩
  go_wp2_with fail
  refine HK.out _ _ ?_
  clear HK KK
  have L2 : Hid (Lc (X1.alloc (.cells (lineZ kd) 80)) (wb + 1) (lineZ kd)) := ⟨by have := heap_alloc_new X1 (.cells (lineZ kd) 80); rw [hs1] at this; exact this, rfl⟩
  have W2 := TW.hide (blk_alloc (o' := .cells (lineZ kd) 80) W1.out)
  have B2 : Hid (Below wb w (X1.alloc (.cells (lineZ kd) 80))) := B1.out.alloc (by omega) _
  unfold lineZ at L2 W2 B2
  generalize X1.alloc _ = X2 at *
  generalize hgg : wb + 1 = g at *
  clear B1 W1 cf HSP
  have c0 : X2.cell? ⟨g, 0, none⟩ = some (.int .i64 kd) := L2.out.cell rfl
  refine wp_seq_k fun KK hK => ?_
  have HK := TW.hide hK
  clear hK
  go_wp2_with fail
  refine (HU.out _).mono ?_
  rintro e w3 ⟨rfl, hb⟩
  have L3 := TW.hide (L2.out.below hb)
  have W3 := TW.hide (blk_keep W2.out hb)
  have B3 : Hid (Below wb w w3) := below_row B2.out hb (by have := blk_lt W2.out; omega)
  clear hb L2 W2 B2 c0
  obtain ⟨v1, c1⟩ := L3.out.has 1 (by omega)
  obtain ⟨v2, c2⟩ := L3.out.has 2 (by omega)
  obtain ⟨v3, c3⟩ := L3.out.has 3 (by omega)
  obtain ⟨v4, c4⟩ := L3.out.has 4 (by omega)
  obtain ⟨v5, c5⟩ := L3.out.has 5 (by omega)
  obtain ⟨v6, c6⟩ := L3.out.has 6 (by omega)
  obtain ⟨v7, c7⟩ := L3.out.has 7 (by omega)
  obtain ⟨v8, c8⟩ := L3.out.has 8 (by omega)
  obtain ⟨v9, c9⟩ := L3.out.has 9 (by omega)
  obtain ⟨v10, c10⟩ := L3.out.has 10 (by omega)
  obtain ⟨v11, c11⟩ := L3.out.has 11 (by omega)
  have f1 := L3.out.free 1
  have f2 := L3.out.free 2
  have f3 := L3.out.free 3
  have f4 := L3.out.free 4
  have f5 := L3.out.free 5
  have f6 := L3.out.free 6
  have f7 := L3.out.free 7
  have f8 := L3.out.free 8
  have f9 := L3.out.free 9
  have f10 := L3.out.free 10
  have f11 := L3.out.free 11
  go_wp2_with fail
  refine HK.out _ _ ?_
  clear HK KK
  clear c1 c2 c3 c4 c5 c6 c7 c8 c9 c10 c11 f1 f2 f3 f4 f5 f6 f7 f8 f9 f10 f11
  have hgw : wb ≤ g := by omega
  have L4 : Hid (Lc (((((((((((w3.setCell ⟨g, 1, none⟩ (.int .i64 (mo kd))).setCell ⟨g, 2, none⟩ (.int .i64 0)).setCell ⟨g, 3, none⟩ (.int .i64 1)).setCell ⟨g, 4, none⟩ (.int .i64 1)).setCell ⟨g, 5, none⟩ (.int .u32 0)).setCell ⟨g, 6, none⟩ (.int .u64 0)).setCell ⟨g, 7, none⟩ (.int .u32 0)).setCell ⟨g, 8, none⟩ (.int .i64 0)).setCell ⟨g, 9, none⟩ (.int .i64 0)).setCell ⟨g, 10, none⟩ (.slice none 0 0)).setCell ⟨g, 11, none⟩ (.slice none 0 0)) g (lineU kd)) := (((((((((((L3.out.set 1 (.int .i64 (mo kd))).set 2 (.int .i64 0)).set 3 (.int .i64 1)).set 4 (.int .i64 1)).set 5 (.int .u32 0)).set 6 (.int .u64 0)).set 7 (.int .u32 0)).set 8 (.int .i64 0)).set 9 (.int .i64 0)).set 10 (.slice none 0 0)).set 11 (.slice none 0 0))
  have W4 : Hid ((((((((((((w3.setCell ⟨g, 1, none⟩ (.int .i64 (mo kd))).setCell ⟨g, 2, none⟩ (.int .i64 0)).setCell ⟨g, 3, none⟩ (.int .i64 1)).setCell ⟨g, 4, none⟩ (.int .i64 1)).setCell ⟨g, 5, none⟩ (.int .u32 0)).setCell ⟨g, 6, none⟩ (.int .u64 0)).setCell ⟨g, 7, none⟩ (.int .u32 0)).setCell ⟨g, 8, none⟩ (.int .i64 0)).setCell ⟨g, 9, none⟩ (.int .i64 0)).setCell ⟨g, 10, none⟩ (.slice none 0 0)).setCell ⟨g, 11, none⟩ (.slice none 0 0)).heap[wb]? = some (.cells cw 9 (0, 0))) := by
    show _ = _
    have hne : wb ≠ g := by omega
    exact (blk_other (blk_other (blk_other (blk_other (blk_other (blk_other (blk_other (blk_other (blk_other (blk_other (blk_other W3.out hne) hne) hne) hne) hne) hne) hne) hne) hne) hne) hne)
  have B4 : Hid (Below wb w (((((((((((w3.setCell ⟨g, 1, none⟩ (.int .i64 (mo kd))).setCell ⟨g, 2, none⟩ (.int .i64 0)).setCell ⟨g, 3, none⟩ (.int .i64 1)).setCell ⟨g, 4, none⟩ (.int .i64 1)).setCell ⟨g, 5, none⟩ (.int .u32 0)).setCell ⟨g, 6, none⟩ (.int .u64 0)).setCell ⟨g, 7, none⟩ (.int .u32 0)).setCell ⟨g, 8, none⟩ (.int .i64 0)).setCell ⟨g, 9, none⟩ (.int .i64 0)).setCell ⟨g, 10, none⟩ (.slice none 0 0)).setCell ⟨g, 11, none⟩ (.slice none 0 0))) := (((((((((((B3.out.setCell hgw _).setCell hgw _).setCell hgw _).setCell hgw _).setCell hgw _).setCell hgw _).setCell hgw _).setCell hgw _).setCell hgw _).setCell hgw _).setCell hgw _)
  generalize (((((((((((w3.setCell ⟨g, 1, none⟩ (.int .i64 (mo kd))).setCell ⟨g, 2, none⟩ (.int .i64 0)).setCell ⟨g, 3, none⟩ (.int .i64 1)).setCell ⟨g, 4, none⟩ (.int .i64 1)).setCell ⟨g, 5, none⟩ (.int .u32 0)).setCell ⟨g, 6, none⟩ (.int .u64 0)).setCell ⟨g, 7, none⟩ (.int .u32 0)).setCell ⟨g, 8, none⟩ (.int .i64 0)).setCell ⟨g, 9, none⟩ (.int .i64 0)).setCell ⟨g, 10, none⟩ (.slice none 0 0)).setCell ⟨g, 11, none⟩ (.slice none 0 0)) = X at L4 W4 B4 ⊢
  have G4 := TW.hide (lineU_good kd p S T L4.out)
  clear L4 L3 W3 B3
  have cf : X.cell? ⟨wb, 0, none⟩ = some (.string kn) := blk_cell W4.out HF.out
  have hkI : ((kn.size : Nat) : Int) = 2 := by omega
  generalize hNN : ws.length = N at *
  have HNN := TW.hide hNN
  clear hNN
  refine wp_seq_k fun KK hK => ?_
  have HK := TW.hide hK
  clear hK
  go_wp2_with fail
  refine HK.out _ _ ?_
  clear HK KK
  have h1N : (1 : Int) ≤ (N : Int) + 1 := by omega
  have GX : Hid (Lgs X g kd p S T 0 ∧ X.heap[wb]? = some (.cells cw 9 (0, 0)) ∧ Below wb w X) := ⟨G4.out, W4.out, B4.out⟩
  clear G4 W4 B4 cf HK1 HU HF hksz hkI
  have HMX := TW.hide hmx
  have HTB := TW.hide htab
  clear hmx htab
  by_cases hN0 : N = 0
  · have hall : Hid (Lgs X g kd p S T 11) := by
      rcases wsN_cases kd p S T 11 (Nat.le_refl _) with ⟨_, hu⟩ | ⟨k, _, _, _, hc⟩
      · obtain ⟨cs, r, a1, a2, c1, c2, hg⟩ := GX.out.1
        exact ⟨cs, r, a1, a2, c1, c2, hg.skip hk hp hm (by omega) (fun q h1 h2 => hu q (by omega) h2)⟩
      · exfalso
        have := HNN.out
        rw [← HWS.out, hc] at this
        simp at this
        omega
    subst hN0
    clear hN
    go_wp2_with fail
    go_loopw [32] (fun i wr => i = .int .i64 0 ∧ wr = X) (fun _ _ => 0)
    case atStart => exact ⟨rfl, rfl⟩
    case round =>
      obtain ⟨rfl, rfl⟩ := hrel
      go_wp2_with fail
      go_ret
      exact ⟨g, rfl, by omega, hall.out, GX.out.2.2⟩
  · have hNz : ¬ N = 0 := hN0
    have hNp : (0 : Int) < (N : Int) := by omega
    have hN11 : N ≤ 11 := by rw [← HNN.out, ← HWS.out]; exact wsN_len kd p S T 11
    have HRF := TW.hide (fun k at_ cs r a1 a2 c1 c2 W h hk hmx htab => readFs g k kd p hp hm S T hS hT (by omega) (by omega) at_ m cs r a1 a2 c1 c2 W h hk hmx htab)
    have HSK := TW.hide (fun W J K cs r a1 a2 c1 c2 (h : Lg W g kd p S T J cs r a1 a2 c1 c2) hJ hu => h.skip (K := K) hk hp hm hJ hu)
    have HWC := TW.hide (fun n hn => wsN_cases kd p S T n hn)
    clear hp hm hS hT lS lT hk hN
    go_wp2_with fail
    go_loopw [5, 32] (fun a i wr => ∃ (n J : Nat) (at_ : Int), n ≤ N ∧ J ≤ 11 ∧ Hid (ws.drop n = wsN kd p S T (11 - J)) ∧ a = .int .i64 at_ ∧ i = .int .i64 n ∧ Hid (Lgs wr g kd p S T J) ∧ Hid (wr.heap[wb]? = some (.cells cw 9 (0, 0))) ∧ Hid (Below wb w wr)) (fun a i _ => N - (intOf i).toNat)
    case atStart => exact ⟨0, 0, 3, Nat.zero_le _, Nat.zero_le _, by rw [List.drop_zero]; exact HWS.out.symm, rfl, rfl, GX.out.1, GX.out.2.1, GX.out.2.2⟩
    case round =>
      obtain ⟨n, J, at_, hn, hJ, HD, rfl, rfl, HG, HWB, HBB⟩ := hrel
      clear GX
      by_cases hlt : n < N
      · rcases HWC.out (11 - J) (by omega) with ⟨h0, _⟩ | ⟨k, h1, h2, h3, h4⟩
        · exfalso
          have e := HD.out
          rw [h0] at e
          have := congrArg List.length e
          rw [List.length_drop, HNN.out] at this
          simp at this
          omega
        · have hJ2 : 11 - (11 - J) = J := by omega
          rw [hJ2] at h1 h3
          obtain ⟨cs, r, a1, a2, c1, c2, hg⟩ := HG.out
          have hgk := HSK.out wr J k cs r a1 a2 c1 c2 hg h1 h3
          have hgl := hgk.lc.lt
          have HC := TW.hide (HRF.out k at_ cs r a1 a2 c1 c2 wr hgk h2 (fun W hW => HMX.out W (below_row HBB.out hW (by omega))) (fun W hW => HTB.out W (below_row HBB.out hW (by omega))))
          have hd := HD.out
          rw [h4] at hd
          have hget : ws[n]? = some (wordL p S T ((k : Int) + 1)) := by
            have := congrArg (fun l : List (List Int) => l[0]?) hd
            simpa using this
          have HD2 : Hid (ws.drop (n + 1) = wsN kd p S T (11 - (k + 1))) := by
            show _ = _
            have := congrArg (fun l : List (List Int) => l.drop 1) hd
            simpa [List.drop_drop, Nat.add_comm] using this
          have cn : wr.cell? ⟨wb, 1 + n, none⟩ = some (.string (strOfNums (wordL p S T ((k : Int) + 1)))) := blk_cell HWB.out (HLT.out n _ hget)
          clear hg hgk hgl hd hget h3 h4 hJ2 HD HG
          generalize strOfNums (wordL p S T ((k : Int) + 1)) = wd at *
          have hn0 : (0 : Int) ≤ n := by omega
          have hn1 : (n : Int) < N := by omega
          go_wp2_with fail
          refine HC.out.mono ?_
          rintro e w5 ⟨rfl, hl5, hb5⟩
          have L5 := TW.hide hl5
          have W5 : Hid (w5.heap[wb]? = some (.cells cw 9 (0, 0))) := by
            show _ = _
            rw [hb5.block wb (by omega)]; exact HWB.out
          have B5 : Hid (Below wb w w5) := HBB.out.trans (hb5.mono hgw)
          clear hl5 hb5 HC
          go_wp2_with fail
          go_roundw
          case rel => exact ⟨n + 1, k + 1, _, by omega, by omega, HD2, rfl, by go_num, L5.out, W5.out, B5.out⟩
          case measure => simp [intOf]; omega
      · obtain rfl : n = N := by omega
        have hall : Hid (Lgs wr g kd p S T 11) := by
          rcases HWC.out (11 - J) (by omega) with ⟨_, hu⟩ | ⟨k, _, _, _, hc⟩
          · obtain ⟨cs, r, a1, a2, c1, c2, hg⟩ := HG.out
            exact ⟨cs, r, a1, a2, c1, c2, HSK.out wr J 11 cs r a1 a2 c1 c2 hg hJ (fun q h1 h2 => hu q (by omega) h2)⟩
          · exfalso
            have e := HD.out
            rw [hc] at e
            have := congrArg List.length e
            rw [List.length_drop, HNN.out] at this
            simp at this
        go_wp2_with fail
        go_ret
        exact ⟨g, rfl, by omega, hall.out, HBB.out⟩
end LW
end Go.Proofs.YteakoajkmcbilabDoor
namespace Go.Proofs.YteakoajkmcbilabDoor
open Go.RowKit Go.Shelf
set_option linter.unusedVariables false
set_option linter.unusedSimpArgs false
namespace LW
open Words Txt
theorem pcP_at (p : Pm) (S T : Value) (f : Nat) (h1 : 1 ≤ f) (h9 : f ≤ 9) : (pcP p S T)[f - 1]? = some (nk f (p.nv f)) := by
  have : f = 1 ∨ f = 2 ∨ f = 3 ∨ f = 4 ∨ f = 5 ∨ f = 6 ∨ f = 7 ∨ f = 8 ∨ f = 9 := by omega
  rcases this with rfl | rfl | rfl | rfl | rfl | rfl | rfl | rfl | rfl <;> rfl
/-- The parameters that a line says. -/
theorem Lg.said {w : World} {g : Nat} {kd : Int} {p : Pm} {S T : List Int} {cs : Array Value} {r : Nat} {a1 a2 : Option Addr} {c1 c2 : Nat} (h : Lg w g kd p S T 11 cs r a1 a2 c1 c2) :
    w.rangeAt g 1 (pcP p (.slice a1 S.length c1) (.slice a2 T.length c2)).toList := fun j v hv => by
  rw [Array.getElem?_toList] at hv
  refine h.lc.cell ?_
  have hj : j < 11 := by
    rcases Nat.lt_or_ge j 11 with h' | h'
    · exact h'
    · rw [Array.getElem?_eq_none (show (pcP p (.slice a1 S.length c1) (.slice a2 T.length c2)).size ≤ j from h')] at hv; cases hv
  by_cases h9 : j < 9
  · have e := pcP_at p (.slice a1 S.length c1) (.slice a2 T.length c2) (j + 1) (by omega) (by omega)
    rw [Nat.add_sub_cancel] at e
    rw [e] at hv
    rw [Nat.add_comm, h.num (j + 1) (by omega) (by omega), ← hv]
    simp only [mv]
    rw [if_pos (by omega)]
  · have : j = 9 ∨ j = 10 := by omega
    rcases this with rfl | rfl
    · have e : sJ 10 11 S = S := rfl
      have := h.salt
      rw [e] at this
      rw [show 1 + 9 = 10 by omega, this]
      exact hv
    · have e : sJ 11 11 T = T := rfl
      have := h.pers
      rw [e] at this
      rw [show 1 + 10 = 11 by omega, this]
      exact hv
theorem Pn.setRow {w : World} {B : Nat} {a : Option Addr} {c : Nat} {s : List Int} (h : Pn w B a c s) {g : Nat} (hg : g < B) (cs : Array Value) : Pn (w.setRow g cs) B a c s := by
  refine ⟨⟨?_, h.nil, h.len, h.cap, h.byt⟩, h.far⟩
  rcases h.row with h0 | ⟨b, off, rfl, hc⟩
  · exact .inl h0
  · refine .inr ⟨b, off, rfl, fun j hj => ?_⟩
    have hf := h.far _ rfl
    have e : (w.setRow g cs).heap[b]? = w.heap[b]? := setRow_other _ _ _ _ (by simp only at hf; omega)
    have := hc j hj
    unfold World.cell? at this ⊢
    simp only [e]
    exact this
theorem Pn.newRow {w : World} {B : Nat} {a : Option Addr} {c : Nat} {s : List Int} (h : Pn w B a c s) (o : Obj) (cs : Array Value) : Pn ((w.alloc o).setRow w.heap.size cs) B a c s :=
  h.below (below_setRow ((Below.refl _ _).alloc (Nat.le_refl _) _) (Nat.le_refl _))
theorem val_mid {a : Act} {w : World} {o : Oper} {x : Operand} {t : TypeId} {b i : Nat} {v : Value} (ho : o.op = .load t x) (hx : a.eval x = .pointer (some ⟨b, i, none⟩)) (hl : (Instr.loadAt t (.pointer (some ⟨b, i, none⟩))).run Tryd.prog w = .ok v w) :
    (execOp a.eval o).run Tryd.prog w = .ok (.value v) w := by
  simp only [execOp, ho, hx, Sem.run_bind, hl, Result.andThen_ok, Sem.run_pure]
set_option maxRecDepth 100000 in
set_option maxHeartbeats 4000000 in
theorem settle_ (g : Nat) (kd : Int) (p : Pm) (hp : p.Ok) (S T : List Int) (lS : S.length ≤ 64) (lT : T.length ≤ 64) (w : World) (hG : Lgs w g kd p S T 11) (hck : p.ck kd S.length T.length = 0) :
    Calls Tryd.prog 31 #[.pointer (some ⟨g, 0, none⟩)] w fun e w' => ∃ b1 d1 b2 d2, e = .returned (.agg (pcP p (.slice b1 (tr S).length d1) (.slice b2 (tr T).length d2))) ∧ Pn w' w.heap.size b1 d1 (tr S) ∧ Pn w' w.heap.size b2 d2 (tr T) ∧ Below w.heap.size w w' := by
  obtain ⟨cs, r, a1, a2, c1, c2, hg⟩ := hG
  have bS : Pb w a1 c1 S := hg.s.toPb
  have bT : Pb w a2 c2 T := hg.t.toPb
  have HNO : Hid (∀ W : World, Below w.heap.size w W → Calls Tryd.prog 17 #[.int .i64 kd, .agg (pcP p (.slice a1 S.length c1) (.slice a2 T.length c2))] W fun e w' => ∃ b1 d1 b2 d2, e = .returned (.tuple #[.agg (pcP p (.slice b1 (tr S).length d1) (.slice b2 (tr T).length d2)), .int .i64 0]) ∧ Pn w' W.heap.size b1 d1 (tr S) ∧ Pn w' W.heap.size b2 d2 (tr T) ∧ Below W.heap.size W w') := fun W hb => by
    have hs := tr_le S
    have ht := tr_le T
    refine (normalP kd p hp a1 a2 c1 c2 S T W (bS.below hb) (bT.below hb)).mono ?_
    rintro e w' ⟨x, y, rfl, ox, oy, hb'⟩
    simp only [hck, nP, nS, if_true] at ox oy ⊢
    obtain ⟨b1, d1, rfl, q1⟩ := Pn.own ox (by omega) (Byt.tr bS.byt)
    obtain ⟨b2, d2, rfl, q2⟩ := Pn.own oy (by omega) (Byt.tr bT.byt)
    exact ⟨b1, d1, b2, d2, rfl, q1, q2, hb'⟩
  have HCK : Hid (∀ Z : World, Below w.heap.size w Z → Z.cell? ⟨g, 0, none⟩ = some (.int .i64 kd)) := fun Z hZ => (hg.lc.below hZ).cell hg.kind
  have HCS : Hid (∀ Z : World, Below w.heap.size w Z → Z.rangeAt g 1 (pcP p (.slice a1 S.length c1) (.slice a2 T.length c2)).toList) := fun Z hZ j v hv => by
    have h1 := hg.said j v hv
    rw [hZ.cell (lt_of_cell h1)]; exact h1
  have c25 := hg.lc.cell hg.wide
  clear hg bS bT hck hp
  generalize tr S = S' at *
  generalize tr T = T' at *
  generalize S.length = sl at *
  generalize T.length = tl at *
  have b0 := (Below.refl w.heap.size w).alloc (Nat.le_refl _) (.cells #[.int .i64 0, .int .i64 0, .int .i64 0, .int .i64 0, .int .u32 0, .int .u64 0, .int .u32 0, .int .i64 0, .int .i64 0, .slice none 0 0, .slice none 0 0] 26)
  have n0 := heap_alloc_new w (.cells #[.int .i64 0, .int .i64 0, .int .i64 0, .int .i64 0, .int .u32 0, .int .u64 0, .int .u32 0, .int .i64 0, .int .i64 0, .slice none 0 0, .slice none 0 0] 26)
  have c25' : (w.alloc (.cells #[.int .i64 0, .int .i64 0, .int .i64 0, .int .i64 0, .int .u32 0, .int .u64 0, .int .u32 0, .int .i64 0, .int .i64 0, .slice none 0 0, .slice none 0 0] 26)).cell? ⟨g, 25, none⟩ = some (.int .i64 0) := by rw [b0.cell (lt_of_cell c25)]; exact c25
  clear c25
  go_enter Tryd.func31, Tryd.ntmps31
  refine wp_seq_k fun KK hK => ?_
  have HK := TW.hide hK
  clear hK
  go_wp2
  refine HK.out _ _ ?_
  clear HK KK
  generalize w.alloc _ = X at *
  generalize hB : w.heap.size = B at *
  have B0 := TW.hide b0
  have N0 := TW.hide n0
  clear b0 n0
  refine wp_seq_k fun KK hK => ?_
  have HK := TW.hide hK
  clear hK
  go_wp2_with fail
  refine HK.out _ _ ?_
  clear HK KK c25'
  have BX := TW.hide (Below.refl X.heap.size X)
  refine wp_seq_k fun KK hK => ?_
  have HKK := TW.hide hK
  clear hK
  refine wp_region_noPanic ?_
  refine RG.wp_region_L (fun Z => True) (fun Z => Below X.heap.size X Z) [] (by kernel_rfl) ?_
  refine RG.wpL_any fun Ya hY => ?_
  have HTa : Hid (Below X.heap.size X Ya) := by rw [hY]; exact below_drewN BX.out 1
  clear hY
  refine RG.wpL_take (fuel := 7) (a' := ?Aa) [0, 1, 2, 3, 4, 5, 6, 7] (by kernel_rfl) (by kernel_rfl) (fun _ _ _ _ _ h => h) HTa.out (fun _ => trivial) ?ra ?_
  case ra =>
    refine RG.RunsIf.weak (v := ?_) (by rfl) (by rfl) (fun Z hT => ?_) ?_
    rotate_left
    · go_simp
      rfl
    simp only [Act.put, List.setIfInBounds_toArray, List.set_cons_zero, List.set_cons_succ, List.getElem_toArray, List.getElem_cons_zero, List.getElem_cons_succ]
    refine RG.RunsIf.weak (v := ?_) (by rfl) (by rfl) (fun Z hT => ?_) ?_
    rotate_left
    · go_simp
      rfl
    simp only [Act.put, List.setIfInBounds_toArray, List.set_cons_zero, List.set_cons_succ, List.getElem_toArray, List.getElem_cons_zero, List.getElem_cons_succ]
    refine RG.RunsIf.weak (v := ?_) (by rfl) (by rfl) (fun Z hT => ?_) ?_
    rotate_left
    · go_simp
      rfl
    simp only [Act.put, List.setIfInBounds_toArray, List.set_cons_zero, List.set_cons_succ, List.getElem_toArray, List.getElem_cons_zero, List.getElem_cons_succ]
    refine RG.RunsIf.weak (v := .int .i64 kd) (by rfl) (by rfl) (fun Z hT => ?_) ?_
    · have cz := HCK.out Z (below_row B0.out hT (by have := blk_lt N0.out; omega))
      go_simp
    simp only [Act.put, List.setIfInBounds_toArray, List.set_cons_zero, List.set_cons_succ, List.getElem_toArray, List.getElem_cons_zero, List.getElem_cons_succ]
    refine RG.RunsIf.weak (v := ?_) (by rfl) (by rfl) (fun Z hT => ?_) ?_
    rotate_left
    · go_simp
      rfl
    simp only [Act.put, List.setIfInBounds_toArray, List.set_cons_zero, List.set_cons_succ, List.getElem_toArray, List.getElem_cons_zero, List.getElem_cons_succ]
    refine RG.RunsIf.weak (v := ?_) (by rfl) (by rfl) (fun Z hT => ?_) ?_
    rotate_left
    · go_simp
      rfl
    simp only [Act.put, List.setIfInBounds_toArray, List.set_cons_zero, List.set_cons_succ, List.getElem_toArray, List.getElem_cons_zero, List.getElem_cons_succ]
    refine RG.RunsIf.weak (v := ?_) (by rfl) (by rfl) (fun Z hT => ?_) ?_
    rotate_left
    · go_simp
      rfl
    simp only [Act.put, List.setIfInBounds_toArray, List.set_cons_zero, List.set_cons_succ, List.getElem_toArray, List.getElem_cons_zero, List.getElem_cons_succ]
    refine RG.RunsIf.weak (v := .agg (pcP p (.slice a1 sl c1) (.slice a2 tl c2))) (by rfl) (by rfl) (fun Z hT => val_mid (t := 26) (x := .tmp 26) (b := g) (i := 1) (by rfl) (by rfl) (run_loadAt_mid Z g 1 26 _ _ (HCS.out Z (below_row B0.out hT (by have := blk_lt N0.out; omega))) Tryd.underlying26 rfl (by kernel_rfl))) ?_
    simp only [Act.put, List.setIfInBounds_toArray, List.set_cons_zero, List.set_cons_succ, List.getElem_toArray, List.getElem_cons_zero, List.getElem_cons_succ]
    exact RG.RunsIf.nil
  refine RG.wpL_pair (i := 8) (j := 12) (by kernel_rfl) (by rfl) (by rfl) (by rfl) (by rfl) (fun KX hK => ?_) (fun KX hK => ?_)
  · have HK := TW.hide hK
    clear hK
    go_simp
    refine (HNO.out _ (below_row B0.out HTa.out (by have := blk_lt N0.out; omega))).mono ?_
    rintro e W1 ⟨b1, d1, b2, d2, rfl, hq1, hq2, hb1⟩
    have Q1 := TW.hide ((hq1.newRow (.cells #[.int .i64 0, .int .i64 0, .int .i64 0, .int .i64 0, .int .u32 0, .int .u64 0, .int .u32 0, .int .i64 0, .int .i64 0, .slice none 0 0, .slice none 0 0] 26) (pcP p (.slice b1 S'.length d1) (.slice b2 T'.length d2))).mono (B' := B + 1) (by have h1 := HTa.out.size; have h2 := blk_lt N0.out; omega))
    have Q2 := TW.hide ((hq2.newRow (.cells #[.int .i64 0, .int .i64 0, .int .i64 0, .int .i64 0, .int .u32 0, .int .u64 0, .int .u32 0, .int .i64 0, .int .i64 0, .slice none 0 0, .slice none 0 0] 26) (pcP p (.slice b1 S'.length d1) (.slice b2 T'.length d2))).mono (B' := B + 1) (by have h1 := HTa.out.size; have h2 := blk_lt N0.out; omega))
    clear hq1 hq2
    have Hc : Hid (Below X.heap.size X W1) := below_row HTa.out hb1 HTa.out.size
    refine HK.out _ _ Hc.out (fun _ => trivial) ?_
    clear HK KX hb1
    try simp only [Act.put, List.setIfInBounds_toArray, List.set_cons_zero, List.set_cons_succ, List.getElem_toArray, List.getElem_cons_zero, List.getElem_cons_succ]
    refine RG.wpL_take (fuel := 3) (a' := ?Aap) [9, 10, 11] (by kernel_rfl) (by kernel_rfl) (fun _ _ _ _ _ h => h) Hc.out (fun _ => trivial) ?rap ?_
    case rap =>
      refine RG.RunsIf.weak (v := ?_) (by rfl) (by rfl) (fun Z hT => ?_) ?_
      rotate_left
      · go_simp
        rfl
      simp only [Act.put, List.setIfInBounds_toArray, List.set_cons_zero, List.set_cons_succ, List.getElem_toArray, List.getElem_cons_zero, List.getElem_cons_succ]
      refine RG.RunsIf.weak (v := ?_) (by rfl) (by rfl) (fun Z hT => ?_) ?_
      rotate_left
      · go_simp
        rfl
      simp only [Act.put, List.setIfInBounds_toArray, List.set_cons_zero, List.set_cons_succ, List.getElem_toArray, List.getElem_cons_zero, List.getElem_cons_succ]
      refine RG.RunsIf.weak (v := ?_) (by rfl) (by rfl) (fun Z hT => ?_) ?_
      rotate_left
      · go_simp
        rfl
      simp only [Act.put, List.setIfInBounds_toArray, List.set_cons_zero, List.set_cons_succ, List.getElem_toArray, List.getElem_cons_zero, List.getElem_cons_succ]
      exact RG.RunsIf.nil
    have hgB : X.heap.size ≤ W1.heap.size := Hc.out.size
    have Ha : Hid (Below X.heap.size X (W1.alloc (.cells #[.int .i64 0, .int .i64 0, .int .i64 0, .int .i64 0, .int .u32 0, .int .u64 0, .int .u32 0, .int .i64 0, .int .i64 0, .slice none 0 0, .slice none 0 0] 26))) := Hc.out.alloc hgB _
    have Na := TW.hide (heap_alloc_new W1 (.cells #[.int .i64 0, .int .i64 0, .int .i64 0, .int .i64 0, .int .u32 0, .int .u64 0, .int .u32 0, .int .i64 0, .int .i64 0, .slice none 0 0, .slice none 0 0] 26))
    refine RG.wpL_step (i := 12) (by kernel_rfl) (by rfl) (by rfl) (fun KX hK => ?_)
    have HK := TW.hide hK
    clear hK
    go_simp
    refine HK.out _ _ Ha.out (fun _ => trivial) ?_
    clear HK KX Hc
    generalize W1.alloc (.cells #[.int .i64 0, .int .i64 0, .int .i64 0, .int .i64 0, .int .u32 0, .int .u64 0, .int .u32 0, .int .i64 0, .int .i64 0, .slice none 0 0, .slice none 0 0] 26) = X1 at *
    generalize W1.heap.size = g at *
    have hgl1 : g < X1.heap.size := blk_lt Na.out
    have T51 : Hid (Below X.heap.size X (X1.setRow g (pcP p (.slice b1 S'.length d1) (.slice b2 T'.length d2)))) := below_setRow Ha.out hgB
    have N51 := TW.hide (setRow_heap _ _ _ (pcP p (.slice b1 S'.length d1) (.slice b2 T'.length d2)) _ _ Na.out)
    refine RG.wpL_step (i := 13) (by kernel_rfl) (by rfl) (by rfl) (fun KX hK => ?_)
    have HK := TW.hide hK
    clear hK
    refine wp_store_row 26 _ _ (by rfl) g (pcP p (.slice b1 S'.length d1) (.slice b2 T'.length d2)) (by rfl) (by rfl) 26 _ Na.out (info31 _ _ _) (pc_size Pm.zero _ _ _ _ _) (pc_one _ _ _ _ _ _ _) ?_
    simp only [Act.put, List.setIfInBounds_toArray, List.set_cons_zero, List.set_cons_succ, List.getElem_toArray, List.getElem_cons_zero, List.getElem_cons_succ]
    refine HK.out _ _ T51.out (fun _ => trivial) ?_
    clear HK KX Ha Na
    generalize X1.setRow g (pcP p (.slice b1 S'.length d1) (.slice b2 T'.length d2)) = Z1 at *
    refine RG.wpL_step (i := 14) (by kernel_rfl) (by rfl) (by rfl) (fun KX hK => ?_)
    have HK := TW.hide hK
    clear hK
    go_simp
    refine HK.out _ _ T51.out (fun _ => trivial) ?_
    clear HK KX
    refine RG.wpL_done (by kernel_rfl) ?_ _
    refine NoPanic.normal ?_
    refine HKK.out _ _ ?_
    clear HKK KK
    have NBx := TW.hide (blk_keep N0.out T51.out)
    have BBx : Hid (Below B w Z1) := below_row B0.out T51.out (by have := blk_lt N0.out; omega)
    clear T51 HNO HCK HCS
    go_wp2_with (first | (refine wpList_load_row (by rfl) 26 _ (by rfl) g (by rfl) 26 (pcP p (.slice b1 S'.length d1) (.slice b2 T'.length d2)) (0, 0) _ N51.out Tryd.underlying26 rfl (info31 _ _ _) ?_) | (refine wpList_store_row (by rfl) 26 _ _ (by rfl) B (pcP p (.slice b1 S'.length d1) (.slice b2 T'.length d2)) (by rfl) (by rfl) 26 _ NBx.out (info31 _ _ _) (pc_size Pm.zero _ _ _ _ _) (pc_one _ _ _ _ _ _ _) ?_))
    refine bodyPost_ret (v := .agg (pcP p (.slice b1 S'.length d1) (.slice b2 T'.length d2))) (results_cell_row (P := Tryd.prog) Tryd.results31 _ _ B 26 _ (0, 0) _ rfl (setRow_heap _ _ _ _ _ _ NBx.out) Tryd.underlying26 rfl (info31 _ _ _)) rfl ?_
    exact ⟨b1, d1, b2, d2, rfl, (Q1.out.setRow (Nat.lt_succ_self _) _).mono (Nat.le_succ _), (Q2.out.setRow (Nat.lt_succ_self _) _).mono (Nat.le_succ _), below_setRow BBx.out (Nat.le_refl _)⟩
  · have HK := TW.hide hK
    clear hK
    have hgB : X.heap.size ≤ Ya.heap.size := HTa.out.size
    have Ha : Hid (Below X.heap.size X (Ya.alloc (.cells #[.int .i64 0, .int .i64 0, .int .i64 0, .int .i64 0, .int .u32 0, .int .u64 0, .int .u32 0, .int .i64 0, .int .i64 0, .slice none 0 0, .slice none 0 0] 26))) := HTa.out.alloc hgB _
    have Na := TW.hide (heap_alloc_new Ya (.cells #[.int .i64 0, .int .i64 0, .int .i64 0, .int .i64 0, .int .u32 0, .int .u64 0, .int .u32 0, .int .i64 0, .int .i64 0, .slice none 0 0, .slice none 0 0] 26))
    go_simp
    refine HK.out _ _ Ha.out (fun _ => trivial) ?_
    clear HK KX HTa
    generalize Ya.alloc (.cells #[.int .i64 0, .int .i64 0, .int .i64 0, .int .i64 0, .int .u32 0, .int .u64 0, .int .u32 0, .int .i64 0, .int .i64 0, .slice none 0 0, .slice none 0 0] 26) = X0 at *
    generalize Ya.heap.size = g at *
    try simp only [Act.put, List.setIfInBounds_toArray, List.set_cons_zero, List.set_cons_succ, List.getElem_toArray, List.getElem_cons_zero, List.getElem_cons_succ]
    refine RG.wpL_step (i := 8) (by kernel_rfl) (by rfl) (by rfl) (fun KX hK => ?_)
    have HK := TW.hide hK
    clear hK
    go_simp
    refine (HNO.out _ (below_row B0.out Ha.out (by have := blk_lt N0.out; omega))).mono ?_
    rintro e X2 ⟨b1, d1, b2, d2, rfl, hq1, hq2, hb1⟩
    have Q1 := TW.hide ((hq1.setRow (blk_lt Na.out) (pcP p (.slice b1 S'.length d1) (.slice b2 T'.length d2))).mono (B' := B + 1) (by have h1 := Ha.out.size; have h2 := blk_lt N0.out; omega))
    have Q2 := TW.hide ((hq2.setRow (blk_lt Na.out) (pcP p (.slice b1 S'.length d1) (.slice b2 T'.length d2))).mono (B' := B + 1) (by have h1 := Ha.out.size; have h2 := blk_lt N0.out; omega))
    clear hq1 hq2
    have Hc : Hid (Below X.heap.size X X2) := below_row Ha.out hb1 Ha.out.size
    have Nc := TW.hide (blk_keep Na.out hb1)
    refine HK.out _ _ Hc.out (fun _ => trivial) ?_
    clear HK KX hb1 Ha Na
    try simp only [Act.put, List.setIfInBounds_toArray, List.set_cons_zero, List.set_cons_succ, List.getElem_toArray, List.getElem_cons_zero, List.getElem_cons_succ]
    refine RG.wpL_take (fuel := 2) (a' := ?Aaq) [9, 10, 11] (by kernel_rfl) (by kernel_rfl) (fun _ _ _ _ _ h => h) Hc.out (fun _ => trivial) ?raq ?_
    case raq =>
      refine RG.RunsIf.weak (v := ?_) (by rfl) (by rfl) (fun Z hT => ?_) ?_
      rotate_left
      · go_simp
        rfl
      simp only [Act.put, List.setIfInBounds_toArray, List.set_cons_zero, List.set_cons_succ, List.getElem_toArray, List.getElem_cons_zero, List.getElem_cons_succ]
      refine RG.RunsIf.weak (v := ?_) (by rfl) (by rfl) (fun Z hT => ?_) ?_
      rotate_left
      · go_simp
        rfl
      simp only [Act.put, List.setIfInBounds_toArray, List.set_cons_zero, List.set_cons_succ, List.getElem_toArray, List.getElem_cons_zero, List.getElem_cons_succ]
      refine RG.RunsIf.weak (v := ?_) (by rfl) (by rfl) (fun Z hT => ?_) ?_
      rotate_left
      · go_simp
        rfl
      simp only [Act.put, List.setIfInBounds_toArray, List.set_cons_zero, List.set_cons_succ, List.getElem_toArray, List.getElem_cons_zero, List.getElem_cons_succ]
      exact RG.RunsIf.nil
    have hgl2 : g < X2.heap.size := blk_lt Nc.out
    have T52 : Hid (Below X.heap.size X (X2.setRow g (pcP p (.slice b1 S'.length d1) (.slice b2 T'.length d2)))) := below_setRow Hc.out hgB
    have N52 := TW.hide (setRow_heap _ _ _ (pcP p (.slice b1 S'.length d1) (.slice b2 T'.length d2)) _ _ Nc.out)
    refine RG.wpL_step (i := 13) (by kernel_rfl) (by rfl) (by rfl) (fun KX hK => ?_)
    have HK := TW.hide hK
    clear hK
    refine wp_store_row 26 _ _ (by rfl) g (pcP p (.slice b1 S'.length d1) (.slice b2 T'.length d2)) (by rfl) (by rfl) 26 _ Nc.out (info31 _ _ _) (pc_size Pm.zero _ _ _ _ _) (pc_one _ _ _ _ _ _ _) ?_
    simp only [Act.put, List.setIfInBounds_toArray, List.set_cons_zero, List.set_cons_succ, List.getElem_toArray, List.getElem_cons_zero, List.getElem_cons_succ]
    refine HK.out _ _ T52.out (fun _ => trivial) ?_
    clear HK KX Hc Nc
    generalize X2.setRow g (pcP p (.slice b1 S'.length d1) (.slice b2 T'.length d2)) = Z2 at *
    refine RG.wpL_step (i := 14) (by kernel_rfl) (by rfl) (by rfl) (fun KX hK => ?_)
    have HK := TW.hide hK
    clear hK
    go_simp
    refine HK.out _ _ T52.out (fun _ => trivial) ?_
    clear HK KX
    refine RG.wpL_done (by kernel_rfl) ?_ _
    refine NoPanic.normal ?_
    refine HKK.out _ _ ?_
    clear HKK KK
    have NBy := TW.hide (blk_keep N0.out T52.out)
    have BBy : Hid (Below B w Z2) := below_row B0.out T52.out (by have := blk_lt N0.out; omega)
    clear T52 HNO HCK HCS
    go_wp2_with (first | (refine wpList_load_row (by rfl) 26 _ (by rfl) g (by rfl) 26 (pcP p (.slice b1 S'.length d1) (.slice b2 T'.length d2)) (0, 0) _ N52.out Tryd.underlying26 rfl (info31 _ _ _) ?_) | (refine wpList_store_row (by rfl) 26 _ _ (by rfl) B (pcP p (.slice b1 S'.length d1) (.slice b2 T'.length d2)) (by rfl) (by rfl) 26 _ NBy.out (info31 _ _ _) (pc_size Pm.zero _ _ _ _ _) (pc_one _ _ _ _ _ _ _) ?_))
    refine bodyPost_ret (v := .agg (pcP p (.slice b1 S'.length d1) (.slice b2 T'.length d2))) (results_cell_row (P := Tryd.prog) Tryd.results31 _ _ B 26 _ (0, 0) _ rfl (setRow_heap _ _ _ _ _ _ NBy.out) Tryd.underlying26 rfl (info31 _ _ _)) rfl ?_
    exact ⟨b1, d1, b2, d2, rfl, (Q1.out.setRow (Nat.lt_succ_self _) _).mono (Nat.le_succ _), (Q2.out.setRow (Nat.lt_succ_self _) _).mono (Nat.le_succ _), below_setRow BBy.out (Nat.le_refl _)⟩
end LW
end Go.Proofs.YteakoajkmcbilabDoor
namespace Go.Proofs.YteakoajkmcbilabDoor
open Go.RowKit Go.Shelf
set_option linter.unusedVariables false
set_option linter.unusedSimpArgs false
namespace LW
open Words Txt
set_option maxRecDepth 100000 in
theorem idle (p0 p1 p2 p3 : Value) (w : World) :
    CallsD Tryd.prog 29 #[p0, p1, p2, p3] .returning w fun e u' w' => e = .returned (.tuple #[]) ∧ u' = .returning ∧ w' = w := by
  refine callsD_of_wpS Tryd.func29 rfl fun c₀ cs hu => ?_
  apply wpS_seq
  apply wpS_region
  simp [wpOpsS, go_sem, recoverD, hu, Tryd.ntmps29, Exit.thenS]
  apply wpS_seq
  apply wpS_region
  simp [wpOpsS, go_sem, recoverD, hu, Tryd.ntmps29, Exit.thenS]
  refine wpS_cond (t := false) (by simp [Act.eval, Array.replicate]) ?_
  simp only [Bool.false_eq_true, if_false]
  refine wpS_of_wp (wp_skip ?_)
  cases c₀
  simp_all [bodyPostS, results, Tryd.results29]
end LW
end Go.Proofs.YteakoajkmcbilabDoor
namespace Go.Proofs.YteakoajkmcbilabDoor
open Go.RowKit Go.Shelf
set_option linter.unusedVariables false
set_option linter.unusedSimpArgs false
namespace LW
open Words Txt
set_option maxRecDepth 100000 in
theorem results_read (tmps : Array Value) (w : World) (B q1 q2 q3 : Nat) (kd : Int) (cs : Array Value) (h2 : tmps.getD 2 undef = .pointer (some ⟨B, 0, none⟩)) (h3 : tmps.getD 3 undef = .pointer (some ⟨q1, 0, none⟩)) (h4 : tmps.getD 4 undef = .pointer (some ⟨q2, 0, none⟩)) (h5 : tmps.getD 5 undef = .pointer (some ⟨q3, 0, none⟩))
    (c0 : w.cell? ⟨B, 0, none⟩ = some (.int .i64 kd)) (c1 : w.heap[q1]? = some (.cells cs 26 (0, 0))) (c2 : w.cell? ⟨q2, 0, none⟩ = some (.int .i64 0)) (c3 : w.cell? ⟨q3, 0, none⟩ = some (.int .i64 0)) (hi : (Tryd.prog.info? 26).map (·.size) = some cs.size) :
    (results Tryd.f9 tmps).run Tryd.prog w = .ok (.tuple #[.int .i64 kd, .agg cs, .int .i64 0, .int .i64 0]) w := by
  have h2' : tmps[2]?.getD undef = .pointer (some ⟨B, 0, none⟩) := by simpa using h2
  have h3' : tmps[3]?.getD undef = .pointer (some ⟨q1, 0, none⟩) := by simpa using h3
  have h4' : tmps[4]?.getD undef = .pointer (some ⟨q2, 0, none⟩) := by simpa using h4
  have h5' : tmps[5]?.getD undef = .pointer (some ⟨q3, 0, none⟩) := by simpa using h5
  have r1 := run_loadVar_row w q1 26 26 cs (0, 0) _ c1 Tryd.underlying26 rfl hi
  have r0 : (loadVar 30 ⟨B, 0, none⟩).run Tryd.prog w = .ok (.int .i64 kd) w := by simp [go_sem, c0]
  have r2 : (loadVar 3 ⟨q2, 0, none⟩).run Tryd.prog w = .ok (.int .i64 0) w := by simp [go_sem, c2]
  have r3 : (loadVar 27 ⟨q3, 0, none⟩).run Tryd.prog w = .ok (.int .i64 0) w := by simp [go_sem, c3]
  simp [results, Tryd.results9, h2', h3', h4', h5', asAddr, r0, r1, r2, r3]
set_option maxRecDepth 100000 in
set_option maxHeartbeats 4000000 in
theorem readOk (kd : Int) (hk : kd = 1 ∨ kd = 2) (p : Pm) (hp : p.Ok) (hm : p.May) (S T : List Int) (hS : Byt S) (hT : Byt T) (lS : S.length ≤ 16) (lT : T.length ≤ 16) (hck : p.ck kd S.length T.length = 0) (m : Int) (w : World)
    (hmx : ∀ W, Below w.heap.size w W → W.cell? ⟨1, 0, none⟩ = some (.int .i64 m)) (htab : ∀ W, Below w.heap.size w W → Tab10 W) :
    Calls Tryd.prog 9 #[.string (strOfNums (lnL kd p S T 11))] w fun e w' => ∃ b1 d1 b2 d2, e = .returned (.tuple #[.int .i64 kd, .agg (pcP p (.slice b1 (tr S).length d1) (.slice b2 (tr T).length d2)), .int .i64 0, .int .i64 0]) ∧ Pb w' b1 d1 (tr S) ∧ Pb w' b2 d2 (tr T) ∧ Below w.heap.size w w' := by
  have hmf : ∀ (fn : Fn) (first cap : Array Value) (w : World), (Instr.makeFunc fn first cap).run Tryd.prog w = .ok (.func fn first cap) w := fun _ _ _ _ => rfl
  have hlen := ln_fits kd p hp hm S T lS lT
  have hsz : ¬ (512 : Int) < (((strOfNums (lnL kd p S T 11)).size : Nat) : Int) := by rw [strOf_size]; omega
  have HRL := TW.hide (fun W (hb : Below w.heap.size w W) => readL kd hk p hp hm S T hS hT lS lT m W (fun Z hZ => hmx Z (below_row hb hZ hb.size)) (fun Z hZ => htab Z (below_row hb hZ hb.size)))
  have HST := TW.hide (fun g W hG => settle_ g kd p hp S T (by omega) (by omega) W hG hck)
  clear hmx htab hlen hp hm hck hk lS lT hS hT
  generalize strOfNums (lnL kd p S T 11) = line at *
  have b0 := ((((Below.refl w.heap.size w).alloc (Nat.le_refl _) (.cells #[.int .i64 0] 30)).alloc (by simp) (.cells #[.int .i64 0, .int .i64 0, .int .i64 0, .int .i64 0, .int .u32 0, .int .u64 0, .int .u32 0, .int .i64 0, .int .i64 0, .slice none 0 0, .slice none 0 0] 26)).alloc (by simp; omega) (.cells #[.int .i64 0] 3)).alloc (by simp; omega) (.cells #[.int .i64 0] 27)
  go_enter_defers Tryd.func9, Tryd.ntmps9
  refine wp_seq_k fun KK hK => ?_
  have HK := TW.hide hK
  clear hK
  go_wp2
  refine HK.out _ _ ?_
  clear HK KK
  have k0 : ((((w.alloc (.cells #[.int .i64 0] 30)).alloc (.cells #[.int .i64 0, .int .i64 0, .int .i64 0, .int .i64 0, .int .u32 0, .int .u64 0, .int .u32 0, .int .i64 0, .int .i64 0, .slice none 0 0, .slice none 0 0] 26)).alloc (.cells #[.int .i64 0] 3)).alloc (.cells #[.int .i64 0] 27)).heap[w.heap.size]? = some (.cells #[.int .i64 0] 30 (0, 0)) := blk_alloc (blk_alloc (blk_alloc (heap_alloc_new w _)))
  have k1 : ((((w.alloc (.cells #[.int .i64 0] 30)).alloc (.cells #[.int .i64 0, .int .i64 0, .int .i64 0, .int .i64 0, .int .u32 0, .int .u64 0, .int .u32 0, .int .i64 0, .int .i64 0, .slice none 0 0, .slice none 0 0] 26)).alloc (.cells #[.int .i64 0] 3)).alloc (.cells #[.int .i64 0] 27)).heap[w.heap.size + 1]? = some (.cells #[.int .i64 0, .int .i64 0, .int .i64 0, .int .i64 0, .int .u32 0, .int .u64 0, .int .u32 0, .int .i64 0, .int .i64 0, .slice none 0 0, .slice none 0 0] 26 (0, 0)) := by
    have := heap_alloc_new (w.alloc (.cells #[.int .i64 0] 30)) (.cells #[.int .i64 0, .int .i64 0, .int .i64 0, .int .i64 0, .int .u32 0, .int .u64 0, .int .u32 0, .int .i64 0, .int .i64 0, .slice none 0 0, .slice none 0 0] 26)
    rw [show (w.alloc (.cells #[.int .i64 0] 30)).heap.size = w.heap.size + 1 by simp] at this
    exact blk_alloc (blk_alloc this)
  have k2 : ((((w.alloc (.cells #[.int .i64 0] 30)).alloc (.cells #[.int .i64 0, .int .i64 0, .int .i64 0, .int .i64 0, .int .u32 0, .int .u64 0, .int .u32 0, .int .i64 0, .int .i64 0, .slice none 0 0, .slice none 0 0] 26)).alloc (.cells #[.int .i64 0] 3)).alloc (.cells #[.int .i64 0] 27)).heap[w.heap.size + 1 + 1]? = some (.cells #[.int .i64 0] 3 (0, 0)) := by
    have := heap_alloc_new ((w.alloc (.cells #[.int .i64 0] 30)).alloc (.cells #[.int .i64 0, .int .i64 0, .int .i64 0, .int .i64 0, .int .u32 0, .int .u64 0, .int .u32 0, .int .i64 0, .int .i64 0, .slice none 0 0, .slice none 0 0] 26)) (.cells #[.int .i64 0] 3)
    rw [show ((w.alloc (.cells #[.int .i64 0] 30)).alloc (.cells #[.int .i64 0, .int .i64 0, .int .i64 0, .int .i64 0, .int .u32 0, .int .u64 0, .int .u32 0, .int .i64 0, .int .i64 0, .slice none 0 0, .slice none 0 0] 26)).heap.size = w.heap.size + 1 + 1 by simp] at this
    exact blk_alloc this
  have k3 : ((((w.alloc (.cells #[.int .i64 0] 30)).alloc (.cells #[.int .i64 0, .int .i64 0, .int .i64 0, .int .i64 0, .int .u32 0, .int .u64 0, .int .u32 0, .int .i64 0, .int .i64 0, .slice none 0 0, .slice none 0 0] 26)).alloc (.cells #[.int .i64 0] 3)).alloc (.cells #[.int .i64 0] 27)).heap[w.heap.size + 1 + 1 + 1]? = some (.cells #[.int .i64 0] 27 (0, 0)) := by
    have := heap_alloc_new (((w.alloc (.cells #[.int .i64 0] 30)).alloc (.cells #[.int .i64 0, .int .i64 0, .int .i64 0, .int .i64 0, .int .u32 0, .int .u64 0, .int .u32 0, .int .i64 0, .int .i64 0, .slice none 0 0, .slice none 0 0] 26)).alloc (.cells #[.int .i64 0] 3)) (.cells #[.int .i64 0] 27)
    rw [show (((w.alloc (.cells #[.int .i64 0] 30)).alloc (.cells #[.int .i64 0, .int .i64 0, .int .i64 0, .int .i64 0, .int .u32 0, .int .u64 0, .int .u32 0, .int .i64 0, .int .i64 0, .slice none 0 0, .slice none 0 0] 26)).alloc (.cells #[.int .i64 0] 3)).heap.size = w.heap.size + 1 + 1 + 1 by simp] at this
    exact this
  generalize (((w.alloc (.cells #[.int .i64 0] 30)).alloc (.cells #[.int .i64 0, .int .i64 0, .int .i64 0, .int .i64 0, .int .u32 0, .int .u64 0, .int .u32 0, .int .i64 0, .int .i64 0, .slice none 0 0, .slice none 0 0] 26)).alloc (.cells #[.int .i64 0] 3)).alloc (.cells #[.int .i64 0] 27) = X0 at *
  generalize hB : w.heap.size = B at *
  have B0 := TW.hide b0
  have K0 := TW.hide k0
  have K1 := TW.hide k1
  have K2 := TW.hide k2
  have K3 := TW.hide k3
  clear b0 k0 k1 k2 k3
  have hszI : ((line.size : Nat) : Int) ≤ 512 := by omega
  refine wp_seq_k fun KK hK => ?_
  have HK := TW.hide hK
  clear hK
  go_wp2_with fail
  refine HK.out _ _ ?_
  clear HK KK
  refine wp_seq_k fun KK hK => ?_
  have HK := TW.hide hK
  clear hK
  go_wp2_with fail
  refine HK.out _ _ ?_
  clear HK KK
  refine wp_seq_k fun KK hK => ?_
  have HK := TW.hide hK
  clear hK
  go_wp2_with fail
  refine (HRL.out _ B0.out).mono ?_
  rintro e X ⟨g, rfl, hgB, hG, hb⟩
  have k0 := TW.hide (blk_keep K0.out hb)
  have k1 := TW.hide (blk_keep K1.out hb)
  have k2 := TW.hide (blk_keep K2.out hb)
  have k3 := TW.hide (blk_keep K3.out hb)
  have BX : Hid (Below B w X) := below_row B0.out hb (by have := blk_lt K0.out; omega)
  have HG := TW.hide hG
  clear hb K0 K1 K2 K3 B0 HRL hG
  go_wp2_with fail
  refine HK.out _ _ ?_
  clear HK KK
  generalize hq1 : B + 1 = q1 at *
  generalize hq2 : q1 + 1 = q2 at *
  generalize hq3 : q2 + 1 = q3 at *
  have BXX := TW.hide (Below.refl X.heap.size X)
  have HKD : Hid (∀ Z : World, Below X.heap.size X Z → Z.cell? ⟨g, 0, none⟩ = some (.int .i64 kd)) := fun Z hZ => by
    obtain ⟨cs, r, a1, a2, c1, c2, hg⟩ := HG.out
    exact (hg.lc.below hZ).cell hg.kind
  have HGZ : Hid (∀ Z : World, Below X.heap.size X Z → Lgs Z g kd p S T 11) := fun Z hZ => by
    obtain ⟨cs, r, a1, a2, c1, c2, hg⟩ := HG.out
    exact ⟨cs, r, a1, a2, c1, c2, hg.lc.below hZ, hg.kind, hg.num, hg.salt, hg.pers, hg.s.below hZ, hg.t.below hZ, hg.rows, hg.le, hg.wide⟩
  clear HG
  refine wp_seq_k fun KK hK => ?_
  have HKK := TW.hide hK
  clear hK
  refine wp_region_noPanic ?_
  refine RG.wp_region_L (fun Z => Below X.heap.size X Z) (fun Z => True) [6, 7, 8, 9] (by kernel_rfl) ?_
  refine RG.wpL_any fun Y hY => ?_
  have HY : Hid (Below X.heap.size X Y) := by rw [hY]; exact BXX.out.drew
  clear hY
  refine RG.wpL_take (fuel := 5) (a' := ?Aa) [0, 1, 2, 3, 4] (by kernel_rfl) (by kernel_rfl) (fun _ _ _ _ _ h => h) trivial (fun _ => HY.out) ?ra ?_
  case ra =>
    refine RG.RunsIf.weak (v := ?_) (by rfl) (by rfl) (fun Z hT => ?_) ?_
    rotate_left
    · go_simp
      rfl
    simp only [Act.put, List.setIfInBounds_toArray, List.set_cons_zero, List.set_cons_succ, List.getElem_toArray, List.getElem_cons_zero, List.getElem_cons_succ]
    refine RG.RunsIf.weak (v := ?_) (by rfl) (by rfl) (fun Z hT => ?_) ?_
    rotate_left
    · go_simp
      rfl
    simp only [Act.put, List.setIfInBounds_toArray, List.set_cons_zero, List.set_cons_succ, List.getElem_toArray, List.getElem_cons_zero, List.getElem_cons_succ]
    refine RG.RunsIf.weak (v := ?_) (by rfl) (by rfl) (fun Z hT => ?_) ?_
    rotate_left
    · go_simp
      rfl
    simp only [Act.put, List.setIfInBounds_toArray, List.set_cons_zero, List.set_cons_succ, List.getElem_toArray, List.getElem_cons_zero, List.getElem_cons_succ]
    refine RG.RunsIf.strong (v := .int .i64 kd) (by rfl) (by kernel_rfl) (by rfl) (fun Z hT hS => ?_) ?_
    · have cz := HKD.out Z hS
      go_simp
    simp only [Act.put, List.setIfInBounds_toArray, List.set_cons_zero, List.set_cons_succ, List.getElem_toArray, List.getElem_cons_zero, List.getElem_cons_succ]
    refine RG.RunsIf.weak (v := ?_) (by rfl) (by rfl) (fun Z hT => ?_) ?_
    rotate_left
    · go_simp
      rfl
    simp only [Act.put, List.setIfInBounds_toArray, List.set_cons_zero, List.set_cons_succ, List.getElem_toArray, List.getElem_cons_zero, List.getElem_cons_succ]
    exact RG.RunsIf.nil
  refine RG.wpL_step (i := 5) (by kernel_rfl) (by rfl) (by rfl) (fun KX hK => ?_)
  have HK := TW.hide hK
  clear hK
  go_simp
  refine (HST.out g _ (HGZ.out _ HY.out)).mono ?_
  rintro e V ⟨b1, d1, b2, d2, rfl, hp1, hp2, hb⟩
  have BV : Hid (Below X.heap.size X V) := below_row HY.out hb HY.out.size
  have P1 := TW.hide (hp1.mono (B' := X.heap.size) HY.out.size)
  have P2 := TW.hide (hp2.mono (B' := X.heap.size) HY.out.size)
  refine HK.out _ _ trivial (fun _ => BV.out) ?_
  clear HK KX hb hp1 hp2 HST HGZ HKD
  have hl := blk_lt k3.out
  have v0 := blk_keep k0.out BV.out
  have v1 := blk_keep k1.out BV.out
  have v2 := blk_keep k2.out BV.out
  have v3 := blk_keep k3.out BV.out
  have BW : Hid (Below B w V) := below_row BX.out BV.out (by omega)
  clear k0 k1 k2 k3 BV BX BXX HY
  generalize tr S = S' at *
  generalize tr T = T' at *
  have ca := blk_cell (i := 0) v0 rfl
  have fa : V.frozen? ⟨B, 0, none⟩ = false := by simp [World.frozen?, v0]
  have a0 := blk_set (i := 0) (u := .int .i64 kd) v0
  have a1 := blk_other (p := B) (o := 0) (u := .int .i64 kd) v1 (by omega)
  have a2 := blk_other (p := B) (o := 0) (u := .int .i64 kd) v2 (by omega)
  have a3 := blk_other (p := B) (o := 0) (u := .int .i64 kd) v3 (by omega)
  have PA1 := TW.hide (P1.out.set (g := B) (i := 0) (by omega) (.int .i64 kd))
  have PA2 := TW.hide (P2.out.set (g := B) (i := 0) (by omega) (.int .i64 kd))
  have BA : Hid (Below B w (V.setCell ⟨B, 0, none⟩ (.int .i64 kd))) := BW.out.setCell (Nat.le_refl _) _
  clear v0 v1 v2 v3 P1 P2 BW
  refine RG.wpL_late (i := 6) (by kernel_rfl) (by rfl) (by rfl) (by kernel_rfl) (fun KX hK => ?_)
  have HK := TW.hide hK
  clear hK
  go_simp
  refine HK.out _ _ trivial ?_
  clear HK KX
  clear ca fa
  generalize V.setCell ⟨B, 0, none⟩ (.int .i64 kd) = V1 at *
  have r0 : (V1.setRow q1 (pcP p (.slice b1 S'.length d1) (.slice b2 T'.length d2))).heap[B]? = _ := (setRow_other _ _ _ _ (by omega)).trans a0
  have r1 := setRow_heap _ _ _ (pcP p (.slice b1 S'.length d1) (.slice b2 T'.length d2)) _ _ a1
  have r2 : (V1.setRow q1 (pcP p (.slice b1 S'.length d1) (.slice b2 T'.length d2))).heap[q2]? = _ := (setRow_other _ _ _ _ (by omega)).trans a2
  have r3 : (V1.setRow q1 (pcP p (.slice b1 S'.length d1) (.slice b2 T'.length d2))).heap[q3]? = _ := (setRow_other _ _ _ _ (by omega)).trans a3
  have PB1 := TW.hide (PA1.out.setRow (g := q1) (by omega) (pcP p (.slice b1 S'.length d1) (.slice b2 T'.length d2)))
  have PB2 := TW.hide (PA2.out.setRow (g := q1) (by omega) (pcP p (.slice b1 S'.length d1) (.slice b2 T'.length d2)))
  have BB : Hid (Below B w (V1.setRow q1 (pcP p (.slice b1 S'.length d1) (.slice b2 T'.length d2)))) := below_setRow BA.out (by omega)
  refine RG.wpL_late (i := 7) (by kernel_rfl) (by rfl) (by rfl) (by kernel_rfl) (fun KX hK => ?_)
  have HK := TW.hide hK
  clear hK
  refine wp_store_row 26 _ _ (by rfl) q1 (pcP p (.slice b1 S'.length d1) (.slice b2 T'.length d2)) (by rfl) (by rfl) 26 _ a1 (info31 _ _ _) (pc_size Pm.zero _ _ _ _ _) (pc_one _ _ _ _ _ _ _) ?_
  simp only [Act.put, List.setIfInBounds_toArray, List.set_cons_zero, List.set_cons_succ, List.getElem_toArray, List.getElem_cons_zero, List.getElem_cons_succ]
  refine HK.out _ _ trivial ?_
  clear HK KX
  clear a0 a1 a2 a3 PA1 PA2 BA
  generalize V1.setRow q1 (pcP p (.slice b1 S'.length d1) (.slice b2 T'.length d2)) = V2 at *
  have ca := blk_cell (i := 0) r2 rfl
  have fa : V2.frozen? ⟨q2, 0, none⟩ = false := by simp [World.frozen?, r2]
  have s0 := blk_other (p := q2) (o := 0) (u := .int .i64 0) r0 (by omega)
  have s1 := blk_other (p := q2) (o := 0) (u := .int .i64 0) r1 (by omega)
  have s2 := blk_set (i := 0) (u := .int .i64 0) r2
  have s3 := blk_other (p := q2) (o := 0) (u := .int .i64 0) r3 (by omega)
  have PC1 := TW.hide (PB1.out.set (g := q2) (i := 0) (by omega) (.int .i64 0))
  have PC2 := TW.hide (PB2.out.set (g := q2) (i := 0) (by omega) (.int .i64 0))
  have BC : Hid (Below B w (V2.setCell ⟨q2, 0, none⟩ (.int .i64 0))) := BB.out.setCell (show B ≤ q2 by omega) _
  clear r0 r1 r2 r3 PB1 PB2 BB
  refine RG.wpL_late (i := 8) (by kernel_rfl) (by rfl) (by rfl) (by kernel_rfl) (fun KX hK => ?_)
  have HK := TW.hide hK
  clear hK
  go_simp
  refine HK.out _ _ trivial ?_
  clear HK KX
  clear ca fa
  generalize V2.setCell ⟨q2, 0, none⟩ (.int .i64 0) = V3 at *
  have ca := blk_cell (i := 0) s3 rfl
  have fa : V3.frozen? ⟨q3, 0, none⟩ = false := by simp [World.frozen?, s3]
  have t0 := blk_other (p := q3) (o := 0) (u := .int .i64 0) s0 (by omega)
  have t1 := blk_other (p := q3) (o := 0) (u := .int .i64 0) s1 (by omega)
  have t2 := blk_other (p := q3) (o := 0) (u := .int .i64 0) s2 (by omega)
  have t3 := blk_set (i := 0) (u := .int .i64 0) s3
  have PD1 := TW.hide (PC1.out.set (g := q3) (i := 0) (by omega) (.int .i64 0))
  have PD2 := TW.hide (PC2.out.set (g := q3) (i := 0) (by omega) (.int .i64 0))
  have BD : Hid (Below B w (V3.setCell ⟨q3, 0, none⟩ (.int .i64 0))) := BC.out.setCell (show B ≤ q3 by omega) _
  clear s0 s1 s2 s3 PC1 PC2 BC
  refine RG.wpL_late (i := 9) (by kernel_rfl) (by rfl) (by rfl) (by kernel_rfl) (fun KX hK => ?_)
  have HK := TW.hide hK
  clear hK
  go_simp
  refine HK.out _ _ trivial ?_
  clear HK KX
  clear ca fa
  generalize V3.setCell ⟨q3, 0, none⟩ (.int .i64 0) = V4 at *
  refine RG.wpL_done (by kernel_rfl) ?_ _
  refine NoPanic.normal ?_
  refine HKK.out _ _ ?_
  clear HKK KK
  go_wp2
  refine leaves_cons (f := 29) (args := #[.pointer (some ⟨B, 0, none⟩), .pointer (some ⟨q1, 0, none⟩), .pointer (some ⟨q2, 0, none⟩), .pointer (some ⟨q3, 0, none⟩)]) (by simp) (by simp [go_sem]) ?_
  refine (idle _ _ _ _ _).mono ?_
  rintro e u' w'' ⟨rfl, rfl, rfl⟩
  refine ⟨_, results_read _ w'' B q1 q2 q3 kd (pcP p (.slice b1 S'.length d1) (.slice b2 T'.length d2)) rfl rfl rfl rfl (blk_cell (i := 0) t0 rfl) t1 (blk_cell (i := 0) t2 rfl) (blk_cell (i := 0) t3 rfl) (info31 _ _ _), ?_⟩
  exact ⟨b1, d1, b2, d2, rfl, PD1.out.toPb, PD2.out.toPb, BD.out⟩
end LW
end Go.Proofs.YteakoajkmcbilabDoor
