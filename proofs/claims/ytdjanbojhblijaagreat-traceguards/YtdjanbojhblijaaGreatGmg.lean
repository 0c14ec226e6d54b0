/-
 The theorem of locks: accesses that one lock guards are in order.
-/
import Derived.Test.YtdjanbojhblijaaGreatTr2g
set_option maxRecDepth 100000
set_option linter.unusedVariables false
set_option linter.unusedSimpArgs false
namespace Go.Proofs.YtdjanbojhblijaaGreat
open Go
namespace Tr
open Mc
theorem hdC_next {l : List Ev} {k : Nat} (hk : k < l.length) (x : Int) : hdC (l.take (k + 1)) x = hdS (hdC (l.take k) x) x (ev l k) := by
 rw [take_snoc l k hk, hdC_snoc]
 rfl
/-- What stands behind an access, of the lock that guards it. -/
def GdI (s : Syst) (l : List Ev) (x : Int) (a k : Nat) : Prop := (∀ w, hdC (l.take k) x = some w → ∃ e, e < k ∧ (ev l e).who = w ∧ (e = a ∨ Bf s l a e)) ∧ (hdC (l.take k) x = none → ∃ u, u < k ∧ Bf s l a u ∧ (ev l u).op = 9 ∧ (ev l u).a = x ∧ ∀ q, u < q → q < k → ¬ ((ev l q).op = 8 ∧ (ev l q).a = x))
theorem GdI.next {s : Syst} {l : List Ev} {x : Int} {a k : Nat} (hg : Gd s l l.length) (hk : k < l.length) (hu : (ev l k).op = 9 → (ev l k).a = x → hdC (l.take k) x = some (ev l k).who) (h : GdI s l x a k) : GdI s l x a (k + 1) := by
 obtain ⟨h1, h2⟩ := h
 have hn := hdC_next hk x
 by_cases c8 : (ev l k).op = 8 ∧ (ev l k).a = x
 ·have hfit : FitE s (l.take k) (ev l k) := hg k hk
  have hnone : hdC (l.take k) x = none := by
   have := hfit.lk c8.1
   rw [c8.2] at this
   exact this
  obtain ⟨u, u1, u2, u3, u4, u5⟩ := h2 hnone
  have he : Eg s l u k := .inl (.inr (.inr (.inr (.inr (.inr ⟨u1, c8.1, u3, by rw [u4, c8.2], fun q q1 q2 => by rw [c8.2]; exact u5 q q1 q2⟩)))))
  have hs : hdS (hdC (l.take k) x) x (ev l k) = some (ev l k).who := if_pos c8
  rw [hs] at hn
  refine ⟨fun w hw => ?_, fun h => ?_⟩
  ·rw [hn] at hw
   injection hw with hw
   exact ⟨k, Nat.lt_succ_self _, hw, .inr (u2.more he)⟩
  ·rw [hn] at h; cases h
 ·by_cases c9 : (ev l k).op = 9 ∧ (ev l k).a = x
  ·obtain ⟨e, e1, e2, e3⟩ := h1 _ (hu c9.1 c9.2)
   have hb := bf_own s l e k e1 hk e2
   have hak : Bf s l a k := by
    rcases e3 with e3 | e3
    ·rw [← e3]; exact hb
    ·exact e3.trans hb
   have hs : hdS (hdC (l.take k) x) x (ev l k) = none := by
    unfold hdS
    rw [if_neg c8, if_pos c9]
   rw [hs] at hn
   refine ⟨fun w hw => ?_, fun _ => ⟨k, Nat.lt_succ_self _, hak, c9.1, c9.2, fun q q1 q2 => by omega⟩⟩
   rw [hn] at hw
   cases hw
  ·have hs : hdS (hdC (l.take k) x) x (ev l k) = hdC (l.take k) x := by
    unfold hdS
    rw [if_neg c8, if_neg c9]
   rw [hs] at hn
   refine ⟨fun w hw => ?_, fun h => ?_⟩
   ·rw [hn] at hw
    obtain ⟨e, e1, e2, e3⟩ := h1 w hw
    exact ⟨e, by omega, e2, e3⟩
   ·rw [hn] at h
    obtain ⟨u, u1, u2, u3, u4, u5⟩ := h2 h
    refine ⟨u, by omega, u2, u3, u4, fun q q1 q2 => ?_⟩
    by_cases e : q = k
    ·rw [e]; exact c8
    ·exact u5 q q1 (by omega)
/-- Accesses of different runners that a lock guards are in order. -/
theorem guarded {s : Syst} {l : List Ev} {x cell : Int} (hg : Gd s l l.length) (h1 : ∀ j, j < l.length → ((ev l j).op = 12 ∨ (ev l j).op = 13) → (ev l j).a = cell → hdC (l.take j) x = some (ev l j).who) (h2 : ∀ j, j < l.length → (ev l j).op = 9 → (ev l j).a = x → hdC (l.take j) x = some (ev l j).who) (a b : Nat) (hab : a < b) (hb : b < l.length) (ha1 : (ev l a).op = 12 ∨ (ev l a).op = 13) (ha2 : (ev l a).a = cell) (hb1 : (ev l b).op = 12 ∨ (ev l b).op = 13) (hb2 : (ev l b).a = cell) : Bf s l a b := by
 have hha := h1 a (by omega) ha1 ha2
 have hn := hdC_next (l := l) (k := a) (by omega) x
 have hs : hdS (hdC (l.take a) x) x (ev l a) = hdC (l.take a) x := by
  unfold hdS
  rw [if_neg (by omega), if_neg (by omega)]
 rw [hs, hha] at hn
 have h0 : GdI s l x a (a + 1) := ⟨fun w hw => by
  rw [hn] at hw
  injection hw with hw
  exact ⟨a, Nat.lt_succ_self _, hw, .inl rfl⟩, fun h => by rw [hn] at h; cases h⟩
 have hall : ∀ d, a + 1 + d ≤ b → GdI s l x a (a + 1 + d) := by
  intro d
  induction d with
  | zero => exact fun _ => h0
  | succ d ih => exact fun hd => GdI.next (k := a + 1 + d) hg (by omega) (h2 (a + 1 + d) (by omega)) (ih (by omega))
 have hI := hall (b - (a + 1)) (by omega)
 rw [show a + 1 + (b - (a + 1)) = b by omega] at hI
 obtain ⟨e, e1, e2, e3⟩ := hI.1 _ (h1 b hb hb1 hb2)
 have hbe := bf_own s l e b e1 hb e2
 rcases e3 with e3 | e3
 ·rw [← e3]; exact hbe
 ·exact e3.trans hbe
end Tr
end Go.Proofs.YtdjanbojhblijaaGreat
