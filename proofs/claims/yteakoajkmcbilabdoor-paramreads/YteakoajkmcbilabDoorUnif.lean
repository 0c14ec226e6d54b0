/-
  What Normal and Same (the program, the document) tell, each in one word.
-/
import Derived.Test.YteakoajkmcbilabDoorPSame
namespace Go.Proofs.YteakoajkmcbilabDoor
open Go.RowKit
set_option linter.unusedVariables false
set_option linter.unusedSimpArgs false
namespace LW
open Words
/-- The numbers that Normal tells. -/
def nP (E : Int) (p : Pm) : Pm := if E = 0 then p else Pm.zero
/-- The bytes that Normal tells. -/
def nS (E : Int) (s : List Int) : List Int := if E = 0 then tr s else []
/-- Bytes as they come. -/
structure Pb (w : World) (a : Option Addr) (c : Nat) (s : List Int) : Prop where
  row : Row w a s
  nil : a = none → c = 0
  len : s.length ≤ 140737488351232
  cap : s.length ≤ c
  byt : Byt s
/-- Bytes that a call made. -/
structure Pa (w : World) (a : Option Addr) (c : Nat) (s : List Int) : Prop extends Pb w a c s where
  adr : ∀ ad, a = some ad → ∃ b off, ad = ⟨b, off, none⟩
theorem Pb.below {w w' : World} {a : Option Addr} {c : Nat} {s : List Int} (h : Pb w a c s) (hb : Below w.heap.size w w') : Pb w' a c s :=
  ⟨h.row.below hb, h.nil, h.len, h.cap, h.byt⟩
theorem Pa.below {w w' : World} {a : Option Addr} {c : Nat} {s : List Int} (h : Pa w a c s) (hb : Below w.heap.size w w') : Pa w' a c s :=
  ⟨h.toPb.below hb, h.adr⟩
theorem Pa.own {w : World} {B : Nat} {v : Value} {s : List Int} (h : w.ownsRow B 5 1 v s.length (vs s)) (hl : s.length ≤ 140737488351232) (hb : Byt s) : ∃ a c, v = .slice a s.length c ∧ Pa w a c s := by
  obtain ⟨a, c, rfl, r, _, hc, hn, ha⟩ := own_open h
  exact ⟨a, c, rfl, ⟨r, hn, hl, hc, hb⟩, ha⟩
theorem nil_own (w : World) (B : Nat) : w.ownsRow B 5 1 (.slice none 0 0) 0 (vs []) := World.ownsRow_nil w B 5 1
theorem normalP (kd : Int) (p : Pm) (hp : p.Ok) (sa ta : Option Addr) (sc tc : Nat) (s t : List Int) (w : World) (h1 : Pb w sa sc s) (h2 : Pb w ta tc t) :
    Calls Tryd.prog 17 #[.int .i64 kd, .agg (pcP p (.slice sa s.length sc) (.slice ta t.length tc))] w fun e w' =>
      ∃ x y, e = .returned (.tuple #[.agg (pcP (nP (p.ck kd s.length t.length) p) x y), .int .i64 (p.ck kd s.length t.length)]) ∧ w'.ownsRow w.heap.size 5 1 x (nS (p.ck kd s.length t.length) s).length (vs (nS (p.ck kd s.length t.length) s)) ∧
        w'.ownsRow w.heap.size 5 1 y (nS (p.ck kd s.length t.length) t).length (vs (nS (p.ck kd s.length t.length) t)) ∧ Below w.heap.size w w' := by
  have hc := fun W => checkP kd p hp sa ta s.length sc t.length tc W
  generalize p.ck kd s.length t.length = E at *
  by_cases hE : E = 0
  · subst hE
    simp only [nP, nS, if_true]
    exact normal0 kd p.d p.k p.f p.dp p.lf p.off p.xof p.nd p.inn sa ta sc tc s t w h1.row h2.row h1.nil h2.nil h1.len h2.len h1.cap h2.cap (TW.hide hc)
  · simp only [nP, nS, hE, if_false]
    refine (normalE kd p.d p.k p.f p.dp p.lf p.off p.xof p.nd p.inn _ _ E hE ⟨_, _, _, rfl⟩ ⟨_, _, _, rfl⟩ w (TW.hide hc)).mono ?_
    rintro e w' ⟨rfl, hb⟩
    exact ⟨_, _, rfl, nil_own _ _, nil_own _ _, hb⟩
theorem rnormalP (kd : Int) (p : Pm) (hp : p.Ok) (sa ta : Option Addr) (sc tc : Nat) (s t : List Int) (w : World) (h1 : Pb w sa sc s) (h2 : Pb w ta tc t) :
    Calls Tryd.prog 24 #[.int .i64 kd, .agg (pcP p (.slice sa s.length sc) (.slice ta t.length tc))] w fun e w' =>
      ∃ x y, e = .returned (.tuple #[.agg (pcP (nP (p.ck kd s.length t.length) p) x y), .int .i64 (p.ck kd s.length t.length)]) ∧ w'.ownsRow w.heap.size 5 1 x (nS (p.ck kd s.length t.length) s).length (vs (nS (p.ck kd s.length t.length) s)) ∧
        w'.ownsRow w.heap.size 5 1 y (nS (p.ck kd s.length t.length) t).length (vs (nS (p.ck kd s.length t.length) t)) ∧ Below w.heap.size w w' := by
  have hc := fun W => rcheckP kd p hp sa ta s.length sc t.length tc W
  generalize p.ck kd s.length t.length = E at *
  by_cases hE : E = 0
  · subst hE
    simp only [nP, nS, if_true]
    exact rnormal0 kd p.d p.k p.f p.dp p.lf p.off p.xof p.nd p.inn sa ta sc tc s t w h1.row h2.row h1.nil h2.nil h1.len h2.len (TW.hide hc)
  · simp only [nP, nS, hE, if_false]
    refine (rnormalE kd p.d p.k p.f p.dp p.lf p.off p.xof p.nd p.inn _ _ E hE ⟨_, _, _, rfl⟩ ⟨_, _, _, rfl⟩ w (TW.hide hc)).mono ?_
    rintro e w' ⟨rfl, hb⟩
    exact ⟨_, _, rfl, nil_own _ _, nil_own _ _, hb⟩
/-- What Same tells. -/
def smV (E1 E2 : Int) (p q : Pm) (s t s' t' : List Int) : Bool × Int :=
  if E1 = 0 then (if E2 = 0 then (@decide (p = q ∧ tr s = tr s' ∧ tr t = tr t') (Pm.decA p q (tr s) (tr s') (tr t) (tr t')), 0) else (false, E2)) else (false, E1)
theorem bne0 {E : Int} (h : ¬ E = 0) : (E != 0) = true := by simpa using h
theorem tr_le (s : List Int) : (tr s).length ≤ s.length := by rw [tr_length]; exact tn_le _ _
theorem sameP (kd : Int) (p q : Pm) (hp : p.Ok) (hq : q.Ok) (sa ta sa' ta' : Option Addr) (sc tc sc' tc' : Nat) (s t s' t' : List Int) (w : World) (h1 : Pa w sa sc s) (h2 : Pa w ta tc t) (h3 : Pa w sa' sc' s') (h4 : Pa w ta' tc' t') :
    Calls Tryd.prog 16 #[.int .i64 kd, .agg (pcP p (.slice sa s.length sc) (.slice ta t.length tc)), .agg (pcP q (.slice sa' s'.length sc') (.slice ta' t'.length tc'))] w fun e w' =>
      e = .returned (.tuple #[.bool (smV (p.ck kd s.length t.length) (q.ck kd s'.length t'.length) p q s t s' t').1, .int .i64 (smV (p.ck kd s.length t.length) (q.ck kd s'.length t'.length) p q s t s' t').2]) ∧ Below w.heap.size w w' := by
  have hc := fun W => checkP kd p hp sa ta s.length sc t.length tc W
  have hd := fun W => checkP kd q hq sa' ta' s'.length sc' t'.length tc' W
  have my1 : p.ck kd s.length t.length = 0 → p.May := may_of_ck
  have my2 : q.ck kd s'.length t'.length = 0 → q.May := may_of_ck
  generalize p.ck kd s.length t.length = E1 at *
  generalize q.ck kd s'.length t'.length = E2 at *
  by_cases hE1 : E1 = 0
  · by_cases hE2 : E2 = 0
    · subst hE1 hE2
      simp only [smV, if_true]
      refine sameOk kd p q sa ta sa' ta' sc tc sc' tc' s t s' t' w _ (TW.hide hc) (TW.hide hd) (TW.hide fun j W a b => numberP p hp (my1 rfl) sa ta _ _ sc tc j W a b) (TW.hide fun j W a b => numberP q hq (my2 rfl) sa' ta' _ _ sc' tc' j W a b)
        (TW.hide fun W hb => withoutEnd sa sc s W (h1.row.below hb) h1.nil (by have := h1.len; omega) h1.cap) (TW.hide fun W hb => withoutEnd sa' sc' s' W (h3.row.below hb) h3.nil (by have := h3.len; omega) h3.cap)
        (TW.hide fun W hb => bEqual sa sa' sc sc' (tr s) (tr s') W h1.adr h3.adr (Row.tr (h1.row.below hb)) (Row.tr (h3.row.below hb)) (Byt.tr h1.byt) (Byt.tr h3.byt))
        (TW.hide fun W hb => withoutEnd ta tc t W (h2.row.below hb) h2.nil (by have := h2.len; omega) h2.cap) (TW.hide fun W hb => withoutEnd ta' tc' t' W (h4.row.below hb) h4.nil (by have := h4.len; omega) h4.cap)
        (TW.hide fun W hb => bEqual ta ta' tc tc' (tr t) (tr t') W h2.adr h4.adr (Row.tr (h2.row.below hb)) (Row.tr (h4.row.below hb)) (Byt.tr h2.byt) (Byt.tr h4.byt)) (fun j _ _ h => ?_) (fun h => ?_)
      · have : p ≠ q := fun e => h (by rw [e])
        simp [this]
      · have := nv_all h
        simp [this, Bool.decide_and]
    · subst hE1
      simp only [smV, if_true, hE2, if_false]
      exact sameE2 kd p q sa ta sa' ta' sc tc sc' tc' s t s' t' w E2 (bne0 hE2) (TW.hide hc) (TW.hide hd)
  · simp only [smV, hE1, if_false]
    exact sameE1 kd p q sa ta sa' ta' sc tc sc' tc' s t s' t' w E1 (bne0 hE1) (TW.hide hc)
end LW
end Go.Proofs.YteakoajkmcbilabDoor
