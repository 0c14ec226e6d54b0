/-
  Plain facts on rounds (no Go in sight): what eight steps make of sixteen words.
-/
import Derived.Test.YtecepllidmkmhaaDoorTabs
namespace Go.Proofs.YtecepllidmkmhaaDoor
open Go.RowKit
set_option linter.unusedVariables false
set_option linter.unusedSimpArgs false
namespace MX
open Turn
theorem mixL_W (a b c d x y : Int) : W (mixL a b c d x y).1 ∧ W (mixL a b c d x y).2.1 ∧ W (mixL a b c d x y).2.2.1 ∧ W (mixL a b c d x y).2.2.2 :=
  ⟨ad_bd _ _, T_bd _ _, ad_bd _ _, T_bd _ _⟩
theorem unmixL_W (a b c d x y : Int) (ha : W a) (hb : W b) (hc : W c) (hd : W d) : W (unmixL a b c d x y).1 ∧ W (unmixL a b c d x y).2.1 ∧ W (unmixL a b c d x y).2.2.1 ∧ W (unmixL a b c d x y).2.2.2 :=
  ⟨su_bd _ _, xo_bd _ _ (T_bd _ _) (su_bd _ _), su_bd _ _, xo_bd _ _ (T_bd _ _) (su_bd _ _)⟩
/-- Four words are put at four places. -/
def put4 (vs : List Int) (p0 p1 p2 p3 : Nat) (r : Int × Int × Int × Int) : List Int := (((vs.set p0 r.1).set p1 r.2.1).set p2 r.2.2.1).set p3 r.2.2.2
theorem put4_length (vs : List Int) (p0 p1 p2 p3 : Nat) (r : Int × Int × Int × Int) : (put4 vs p0 p1 p2 p3 r).length = vs.length := by simp [put4]
/-- A step on four places. -/
def G4 (vs : List Int) (p0 p1 p2 p3 : Nat) (x y : Int) : List Int := put4 vs p0 p1 p2 p3 (mixL (vs.getD p0 0) (vs.getD p1 0) (vs.getD p2 0) (vs.getD p3 0) x y)
def U4 (vs : List Int) (p0 p1 p2 p3 : Nat) (x y : Int) : List Int := put4 vs p0 p1 p2 p3 (unmixL (vs.getD p0 0) (vs.getD p1 0) (vs.getD p2 0) (vs.getD p3 0) x y)
/-- The places of a step. -/
def pl (i j : Nat) : Nat := (plL.getD (i * 4 + j) 0).toNat
/-- A step of a round: which words of the message, in which order 's'. -/
def stepL (vs ms s : List Int) (i : Nat) : List Int := G4 vs (pl i 0) (pl i 1) (pl i 2) (pl i 3) (ms.getD (s.getD (2 * i) 0).toNat 0) (ms.getD (s.getD (2 * i + 1) 0).toNat 0)
def unstepL (vs ms s : List Int) (i : Nat) : List Int := U4 vs (pl i 0) (pl i 1) (pl i 2) (pl i 3) (ms.getD (s.getD (2 * i) 0).toNat 0) (ms.getD (s.getD (2 * i + 1) 0).toNat 0)
/-- The first steps of a round. -/
def forthTo (vs ms s : List Int) : Nat → List Int
  | 0 => vs
  | i + 1 => stepL (forthTo vs ms s i) ms s i
/-- The last 'k' of eight steps undone. -/
def backTo (vs ms s : List Int) : Nat → List Int
  | 0 => vs
  | k + 1 => unstepL (backTo vs ms s k) ms s (7 - k)
/-- A round and the way back. -/
def forthL (vs ms : List Int) (r : Nat) : List Int := forthTo vs ms (ord (r % 10)) 8
def backL (vs ms : List Int) (r : Nat) : List Int := backTo vs ms (ord (r % 10)) 8
theorem G4_length (vs : List Int) (p0 p1 p2 p3 : Nat) (x y : Int) : (G4 vs p0 p1 p2 p3 x y).length = vs.length := put4_length _ _ _ _ _ _
theorem U4_length (vs : List Int) (p0 p1 p2 p3 : Nat) (x y : Int) : (U4 vs p0 p1 p2 p3 x y).length = vs.length := put4_length _ _ _ _ _ _
theorem put4_Ws {vs : List Int} (p0 p1 p2 p3 : Nat) {r : Int × Int × Int × Int} (h : Ws vs) (h0 : W r.1) (h1 : W r.2.1) (h2 : W r.2.2.1) (h3 : W r.2.2.2) : Ws (put4 vs p0 p1 p2 p3 r) :=
  (((h.set h0 _).set h1 _).set h2 _).set h3 _
theorem G4_Ws {vs : List Int} (p0 p1 p2 p3 : Nat) (x y : Int) (h : Ws vs) : Ws (G4 vs p0 p1 p2 p3 x y) := by
  obtain ⟨h0, h1, h2, h3⟩ := mixL_W (vs.getD p0 0) (vs.getD p1 0) (vs.getD p2 0) (vs.getD p3 0) x y
  exact put4_Ws _ _ _ _ h h0 h1 h2 h3
theorem U4_Ws {vs : List Int} (p0 p1 p2 p3 : Nat) (x y : Int) (h : Ws vs) : Ws (U4 vs p0 p1 p2 p3 x y) := by
  obtain ⟨h0, h1, h2, h3⟩ := unmixL_W (vs.getD p0 0) (vs.getD p1 0) (vs.getD p2 0) (vs.getD p3 0) x y (h.get _) (h.get _) (h.get _) (h.get _)
  exact put4_Ws _ _ _ _ h h0 h1 h2 h3
theorem forthTo_length (vs ms s : List Int) (i : Nat) : (forthTo vs ms s i).length = vs.length := by
  induction i with
  | zero => rfl
  | succ i ih => rw [forthTo, stepL, G4_length, ih]
theorem forthTo_Ws {vs : List Int} (ms s : List Int) (i : Nat) (h : Ws vs) : Ws (forthTo vs ms s i) := by
  induction i with
  | zero => exact h
  | succ i ih => exact G4_Ws _ _ _ _ _ _ ih
theorem backTo_length (vs ms s : List Int) (i : Nat) : (backTo vs ms s i).length = vs.length := by
  induction i with
  | zero => rfl
  | succ i ih => rw [backTo, unstepL, U4_length, ih]
theorem backTo_Ws {vs : List Int} (ms s : List Int) (i : Nat) (h : Ws vs) : Ws (backTo vs ms s i) := by
  induction i with
  | zero => exact h
  | succ i ih => exact U4_Ws _ _ _ _ _ _ ih
theorem pl_all : ∀ i, i < 8 → pl i 0 < 16 ∧ pl i 1 < 16 ∧ pl i 2 < 16 ∧ pl i 3 < 16 ∧ pl i 0 ≠ pl i 1 ∧ pl i 0 ≠ pl i 2 ∧ pl i 0 ≠ pl i 3 ∧ pl i 1 ≠ pl i 2 ∧ pl i 1 ≠ pl i 3 ∧ pl i 2 ≠ pl i 3 ∧
    (plL.drop (i * 4)).take 4 = [(pl i 0 : Int), (pl i 1 : Int), (pl i 2 : Int), (pl i 3 : Int)] := by
  intro i hi
  have : i = 0 ∨ i = 1 ∨ i = 2 ∨ i = 3 ∨ i = 4 ∨ i = 5 ∨ i = 6 ∨ i = 7 := by omega
  rcases this with rfl | rfl | rfl | rfl | rfl | rfl | rfl | rfl <;> decide +kernel
end MX
end Go.Proofs.YtecepllidmkmhaaDoor
