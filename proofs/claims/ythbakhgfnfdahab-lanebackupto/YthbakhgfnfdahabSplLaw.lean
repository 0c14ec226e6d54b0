/-
  The walk of LaneSplits: it returns true for every input.
-/
import Derived.Test.YthbakhgfnfdahabLSplit
import Derived.Test.YthbakhgfnfdahabWideP
import Derived.Outline
namespace Go.Proofs.Ythbakhgfnfdahab
open Go.RowKit Go.ChangeShapes
set_option linter.unusedVariables false
set_option linter.unusedSimpArgs false
namespace LW
open Words
/-- Lanes, if there are any, that lie in rows of the call's own. -/
def Lnd (w : World) (base : Nat) (al : Option Addr) (n : Nat) (L : Nat → List Int) : Prop := 0 < n → ∃ g qs, al = some ⟨g, 0, none⟩ ∧ Lst w base g n L n qs ∧ base ≤ g
theorem Lnd.below {w w' : World} {base n : Nat} {al : Option Addr} {L : Nat → List Int} (h : Lnd w base al n L) (hb : Below w.heap.size w w') : Lnd w' base al n L := fun h0 => by
  obtain ⟨g, qs, h1, h2, h3⟩ := h h0
  exact ⟨g, qs, h1, h2.below hb, h3⟩
theorem Lnd.get {w : World} {base n i : Nat} {al : Option Addr} {L : Nat → List Int} (h : Lnd w base al n L) (hi : i < n) :
    ∃ g a' c', al = some ⟨g, 0, none⟩ ∧ w.cell? ⟨g, i, none⟩ = some (.slice a' (L i).length c') ∧ Row w a' (L i) := by
  obtain ⟨g, qs, h1, h2, h3⟩ := h (by omega)
  obtain ⟨v, hv, ho⟩ := h2.2.2 i hi
  obtain ⟨a', c', rfl, hr, _⟩ := row_of_own ho
  exact ⟨g, a', c', h1, (ref_cell h2.1 hv).1, hr⟩
theorem Lnd.spoilt {w W : World} {base n i : Nat} {al : Option Addr} {L : Nat → List Int} (h : Lnd w base al n L) (hu : U w W) (hi : i < n) :
    ∃ g v ys, al = some ⟨g, 0, none⟩ ∧ W.cell? ⟨g, i, none⟩ = some v ∧ W.ownsRow base 5 1 v (L i).length (vs ys) := by
  obtain ⟨g, qs, h1, h2, h3⟩ := h (by omega)
  obtain ⟨v, hv, ho⟩ := h2.2.2 i hi
  obtain ⟨ys, hy⟩ := own_U ho hu
  exact ⟨g, v, ys, h1, (ref_cell (hu.two g _ _ _ h2.1 (by decide)) hv).1, hy⟩
/-- What both calls Split answer, of whatever kind. -/
def SpP (w : World) (n : Nat) (E : Int) (L : Nat → List Int) (e : Ending) (w' : World) : Prop := ∃ al c, e = .returned (.tuple #[.slice al n c, .int .i64 E]) ∧ Lnd w' w.heap.size al n L ∧ Below w.heap.size w w'
theorem lsplitU (k : Int) (a : Option Addr) (cap : Nat) (zs : List Int) (w : World) (hr : Row w a zs) (hcap : zs.length ≤ cap) (hm : zs.length ≤ 140737488351232) :
    Calls Try.prog 5 #[.int .i64 k, .slice a zs.length cap] w fun e w' => SpP w (nl k) (ke k) (laL (bb k) zs) e w' := by
  rcases kinds k with h | h | h
  · refine (lsplit k a cap zs w (.inl h) hr hcap hm).mono ?_
    rintro e w' ⟨g, qs, rfl, h1, h2, h3⟩
    exact ⟨_, _, by rw [show ke k = 0 by rw [h]; rfl], fun _ => ⟨g, qs, rfl, h1, h2⟩, h3⟩
  · refine (lsplit k a cap zs w (.inr h) hr hcap hm).mono ?_
    rintro e w' ⟨g, qs, rfl, h1, h2, h3⟩
    exact ⟨_, _, by rw [show ke k = 0 by rw [h]; rfl], fun _ => ⟨g, qs, rfl, h1, h2⟩, h3⟩
  · refine (lsplitNo k a zs.length cap w h).mono ?_
    rintro e w' ⟨rfl, h3⟩
    have h0 : nl k = 0 := by simp [nl, h.1, h.2]
    refine ⟨none, 0, by rw [h0, show ke k = 1 by simp [ke, h.1, h.2]], fun h => by omega, h3⟩
theorem Row.front {w : World} {f : Nat} {zs ys : List Int} (h : Row w (some ⟨f, 0, none⟩) (zs ++ ys)) : Row w (some ⟨f, 0, none⟩) zs := by
  have := h.sub 0 zs.length (by simp)
  simpa using this
theorem full_form {W : World} {B : Nat} {v : Value} {zs : List Int} (h : W.ownsRow B 5 1 v (zs.length + 70) (vs (wideL zs))) : ∃ f cf, v = .slice (some ⟨f, 0, none⟩) (zs.length + 70) cf ∧ f < W.heap.size ∧ Row W (some ⟨f, 0, none⟩) (wideL zs) ∧ zs.length + 70 ≤ cf := by
  have h' := h
  rw [← wideL_length] at h'
  obtain ⟨f, cf, h1, h2, h3⟩ := own_some h (by omega)
  obtain ⟨a2, c2, h4, h5, _⟩ := row_of_own h'
  rw [h1, wideL_length] at h4
  simp only [Value.slice.injEq, true_and] at h4
  obtain ⟨rfl, rfl⟩ := h4
  refine ⟨f, cf, h1, h3, h5, ?_⟩
  rcases h.2 with ⟨h6, _⟩ | ⟨g, cap, cur, h6, _, _, h7, _⟩
  · rw [h1] at h6; cases h6
  · rw [h1] at h6
    simp only [Value.slice.injEq] at h6
    obtain ⟨_, _, rfl⟩ := h6
    exact h7
end LW
end Go.Proofs.Ythbakhgfnfdahab
