/-
  What Normal and Same (the program, the document) tell, each in one word.
-/
import Derived.Test.YtplpplbmajiclabGreatPSame
namespace Go.Proofs.YtplpplbmajiclabGreat
open Go.RowKit
set_option linter.unusedVariables false
set_option linter.unusedSimpArgs false
namespace LW
open Words
/-- The numbers that Normal tells. -/
def nP (E : Int) (p : Pm) : Pm := if E = 0 then p else Pm.zero
/-- The bytes that Normal tells. -/
def nS (E : Int) (s : List Int) : List Int := if E = 0 then tr s else []
/-- Bytes as they come. -/
structure Pb (w : World) (a : Option Addr) (c : Nat) (s : List Int) : Prop where
  row : Row w a s
  nil : a = none → c = 0
  len : s.length ≤ 140737488351232
  cap : s.length ≤ c
  byt : Byt s
/-- Bytes that a call made. -/
structure Pa (w : World) (a : Option Addr) (c : Nat) (s : List Int) : Prop extends Pb w a c s where
  adr : ∀ ad, a = some ad → ∃ b off, ad = ⟨b, off, none⟩
theorem Pb.below {w w' : World} {a : Option Addr} {c : Nat} {s : List Int} (h : Pb w a c s) (hb : Below w.heap.size w w') : Pb w' a c s :=
  ⟨h.row.below hb, h.nil, h.len, h.cap, h.byt⟩
theorem Pa.below {w w' : World} {a : Option Addr} {c : Nat} {s : List Int} (h : Pa w a c s) (hb : Below w.heap.size w w') : Pa w' a c s :=
  ⟨h.toPb.below hb, h.adr⟩
theorem Pa.own {w : World} {B : Nat} {v : Value} {s : List Int} (h : w.ownsRow B 5 1 v s.length (vs s)) (hl : s.length ≤ 140737488351232) (hb : Byt s) : ∃ a c, v = .slice a s.length c ∧ Pa w a c s := by
  obtain ⟨a, c, rfl, r, _, hc, hn, ha⟩ := own_open h
  exact ⟨a, c, rfl, ⟨r, hn, hl, hc, hb⟩, ha⟩
theorem nil_own (w : World) (B : Nat) : w.ownsRow B 5 1 (.slice none 0 0) 0 (vs []) := World.ownsRow_nil w B 5 1
/-- What Same tells. -/
def smV (E1 E2 : Int) (p q : Pm) (s t s' t' : List Int) : Bool × Int :=
  if E1 = 0 then (if E2 = 0 then (@decide (p = q ∧ tr s = tr s' ∧ tr t = tr t') (Pm.decA p q (tr s) (tr s') (tr t) (tr t')), 0) else (false, E2)) else (false, E1)
theorem bne0 {E : Int} (h : ¬ E = 0) : (E != 0) = true := by simpa using h
theorem tr_le (s : List Int) : (tr s).length ≤ s.length := by rw [tr_length]; exact tn_le _ _
end LW
end Go.Proofs.YtplpplbmajiclabGreat
