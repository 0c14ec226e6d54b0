/-
  What Encode (the program, the document) tells, each in one word; rows of words.
-/
import Derived.Test.YtomdplcmbcjkfaaWLoad
namespace Go.Proofs.Ytomdplcmbcjkfaa
open Go.RowKit
set_option linter.unusedVariables false
set_option linter.unusedSimpArgs false
namespace LW
open Words
/-- What is told beside an error, or without one. -/
def eS (E : Int) (l : List Int) : List Int := if E = 0 then l else []
theorem enL_length (kd : Int) (p : Pm) (s t : List Int) (h : p.ck kd s.length t.length = 0) : (enL kd p s t).length = (mo kd).toNat := by
  have hk := ck_kind h
  have hsl := ck_salts h
  have h9 := enP_length kd p hk 9 (by omega)
  have hs4 : 4 * (mo kd / 4).toNat = (mo kd).toNat := by rcases hk with rfl | rfl <;> rfl
  unfold enL
  rw [length_splice _ _ _ (by rw [length_splice _ _ _ (by omega)]; omega), length_splice _ _ _ (by omega)]
  exact h9
theorem enL_byt (kd : Int) (p : Pm) (s t : List Int) (hs : Byt s) (ht : Byt t) : Byt (enL kd p s t) := splice_byt _ (splice_byt _ (enP_byt kd p 9) hs) ht
theorem mo_le (kd : Int) : (mo kd).toNat ≤ 64 := by
  unfold mo
  split
  · decide
  · split <;> decide
theorem blk_Pa {w : World} {g : Nat} {l : List Int} (h : w.heap[g]? = some (.cells (vs l).toArray 5 (0, 0))) (hb : Byt l) (hl : l.length ≤ 64) : Pa w (some ⟨g, 0, none⟩) l.length l :=
  ⟨⟨.inr ⟨g, 0, rfl, fun i hi => by rw [Nat.zero_add]; exact blk_cell h (by rw [List.getElem?_toArray, vs_get l i hi])⟩, (fun h => by cases h), by omega, Nat.le_refl _, hb⟩, fun ad h => ⟨g, 0, by cases h; rfl⟩⟩
theorem nil_Pa (w : World) : Pa w none 0 [] := ⟨⟨.inl rfl, (fun _ => rfl), by simp, Nat.le_refl _, Byt.nil⟩, fun ad h => by cases h⟩
/-- What both tell. -/
def EncSays (kd : Int) (p : Pm) (s t : List Int) (w : World) (e : Ending) (w' : World) : Prop :=
  ∃ a c, e = .returned (.tuple #[.slice a (eS (p.ck kd s.length t.length) (enL kd p s t)).length c, .int .i64 (p.ck kd s.length t.length)]) ∧ Pa w' a c (eS (p.ck kd s.length t.length) (enL kd p s t)) ∧ c ≤ 64 ∧
    w'.ownsRow w.heap.size 5 1 (.slice a (eS (p.ck kd s.length t.length) (enL kd p s t)).length c) (eS (p.ck kd s.length t.length) (enL kd p s t)).length (vs (eS (p.ck kd s.length t.length) (enL kd p s t))) ∧ Below w.heap.size w w'
theorem encP (kd : Int) (p : Pm) (hp : p.Ok) (sa ta : Option Addr) (sc tc : Nat) (s t : List Int) (w : World) (h1 : Pb w sa sc s) (h2 : Pb w ta tc t) :
    Calls Try.prog 7 #[.int .i64 kd, .agg (pcP p (.slice sa s.length sc) (.slice ta t.length tc))] w (EncSays kd p s t w) := by
  by_cases hE : p.ck kd s.length t.length = 0
  · refine (encOk kd p hp sa ta sc tc s t w hE h1 h2).mono ?_
    rintro e w' ⟨g, rfl, hg, hh, hb⟩
    have hl := enL_length kd p s t hE
    have hm := mo_le kd
    unfold EncSays
    rw [hE]
    simp only [eS, if_true]
    exact ⟨_, _, rfl, blk_Pa hh (enL_byt kd p s t h1.byt h2.byt) (by omega), by omega, own_of_blk hh hg (by unfold maxLen; omega), hb⟩
  · refine (encE kd p hp sa ta sc tc s t w (bne0 hE)).mono ?_
    rintro e w' ⟨rfl, hb⟩
    unfold EncSays
    simp only [eS, hE, if_false]
    exact ⟨none, 0, rfl, nil_Pa _, by omega, nil_own _ _, hb⟩
theorem rencP (kd : Int) (p : Pm) (hp : p.Ok) (sa ta : Option Addr) (sc tc : Nat) (s t : List Int) (w : World) (h1 : Pb w sa sc s) (h2 : Pb w ta tc t) :
    Calls Try.prog 12 #[.int .i64 kd, .agg (pcP p (.slice sa s.length sc) (.slice ta t.length tc))] w (EncSays kd p s t w) := by
  by_cases hE : p.ck kd s.length t.length = 0
  · refine (rencOk kd p hp sa ta sc tc s t w hE h1 h2).mono ?_
    rintro e w' ⟨g, rfl, hg, hh, hb⟩
    have hl := enL_length kd p s t hE
    have hm := mo_le kd
    unfold EncSays
    rw [hE]
    simp only [eS, if_true]
    exact ⟨_, _, rfl, blk_Pa hh (enL_byt kd p s t h1.byt h2.byt) (by omega), by omega, own_of_blk hh hg (by unfold maxLen; omega), hb⟩
  · refine (rencE kd p hp sa ta sc tc s t w (bne0 hE)).mono ?_
    rintro e w' ⟨rfl, hb⟩
    unfold EncSays
    simp only [eS, hE, if_false]
    exact ⟨none, 0, rfl, nil_Pa _, by omega, nil_own _ _, hb⟩
/-- A row of words. -/
def RowU (w : World) (a : Option Addr) (l : List Int) : Prop := l = [] ∨ ∃ g, a = some ⟨g, 0, none⟩ ∧ ∀ i, i < l.length → w.cell? ⟨g, i, none⟩ = some (.int .u64 (l.getD i 0))
theorem RowU.below {w w' : World} {a : Option Addr} {l : List Int} (h : RowU w a l) (hb : Below w.heap.size w w') : RowU w' a l := by
  rcases h with h | ⟨g, rfl, hc⟩
  · exact .inl h
  · exact .inr ⟨g, rfl, fun i hi => by rw [hb.cell (lt_of_cell (hc i hi))]; exact hc i hi⟩
/-- The words of a block. -/
def wd (kd : Int) : Nat := (mo kd / 8).toNat
def woL (kd : Int) (l : List Int) : List Int := (List.range 8).map fun i => le ((l.drop (i * wd kd)).take (wd kd))
theorem woL_length (kd : Int) (l : List Int) : (woL kd l).length = 8 := by simp [woL]
theorem woL_get (kd : Int) (l : List Int) (i : Nat) (h : i < 8) : (woL kd l).getD i 0 = le ((l.drop (i * wd kd)).take (wd kd)) := by
  simp [woL, List.getD_eq_getElem?_getD, h]
end LW
end Go.Proofs.Ytomdplcmbcjkfaa
