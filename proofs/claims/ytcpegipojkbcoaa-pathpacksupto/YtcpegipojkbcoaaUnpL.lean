/-
  Plain facts for Unpack: how many digests a path has, exactly; what the bytes say; lists and steps of a call's own.
-/
import Derived.Test.YtcpegipojkbcoaaDigs
import Derived.Test.YtcpegipojkbcoaaRPackU
namespace Go.Proofs.Ytcpegipojkbcoaa
open Go.RowKit
set_option linter.unusedVariables false
set_option linter.unusedSimpArgs false
namespace LW
open Words
theorem up_half {b f : Nat} (hf : 2 ≤ f) : up b f ≤ b / 2 + 1 := by
  have h : b / f ≤ b / 2 := Nat.div_le_div_left hf (by omega)
  unfold up
  split <;> omega
/-- A row over the leaves, where there are more than one, has at most half as many nodes, and one more. -/
theorem row_half {T : Tr} {n : Nat} {R : List Nat} (hv : vd T = 0) (hR : Rws T (lv T n) R) (i : Nat) (hi : i + 2 < R.length) : R.getD (i + 1) 0 ≤ 9223372036854775808 ∧ 2 ≤ T.f ∧ T.f ≤ 255 := by
  obtain ⟨v1, v2, v3, v4, _⟩ := vd_ok hv
  have h1 := hR.one i (by omega)
  have h2 := hR.next i (by omega)
  have h3 := hR.small i (by omega)
  have hne : ¬ R.getD (i + 1) 0 = 1 := fun h => by have := h1.1 h; omega
  rw [nx] at h2
  split at h2
  · exact absurd h2 hne
  · have hf : 2 ≤ T.f := by omega
    have := up_half (b := R.getD i 0) (f := T.f.toNat) (by omega)
    exact ⟨by omega, hf, by omega⟩
/-- A node that is not the root has at most 255 below it. -/
theorem step_small {T : Tr} {n : Nat} {R : List Nat} (hn : n < 18446744073709551616) (hv : vd T = 0) (hT : 0 ≤ T.lf) (hR : Rws T (lv T n) R) {lf : Nat} (h : lf < R.getD 0 0) (i : Nat) (hi : i + 2 < R.length) : wT T n R lf (i + 1) - wF T R lf (i + 1) ≤ 255 := by
  obtain ⟨_, h2, h3⟩ := row_half hv hR i hi
  have hro : rtB R ((i + 1 : Nat) : Int) = false := by unfold rtB; rw [Int.toNat_natCast]; simp; omega
  have hby : byN T ((i + 1 : Nat) : Int) = T.f.toNat := by unfold byN; rw [if_neg (by omega)]
  have hin := aw_in (n := n) hv hR h i (by omega)
  obtain ⟨f1, f2, f3, f4, f5, f6⟩ := spot_facts hn hv hT hR (aw_has (n := n) hv hR h (i + 1) (by omega))
  have hea : eaN T ((i + 1 : Nat) : Int) (R.getD ((i + 1 : Nat) : Int).toNat 0) (blw n R ((i + 1 : Nat) : Int)) = T.f.toNat := by
    rw [Int.toNat_natCast]
    unfold eaN
    rw [if_neg (by omega), if_neg]
    rintro ⟨_, h1⟩
    have := (hR.one i (by omega)).1 h1
    omega
  rw [hea] at f4
  unfold wT wF
  omega
theorem szN_le {T : Tr} {n : Nat} {R : List Nat} (hn : n < 18446744073709551616) (hv : vd T = 0) (hT : 0 ≤ T.lf) (hR : Rws T (lv T n) R) {lf : Nat} (h : lf < R.getD 0 0) : ∀ k, k + 1 < R.length → szN T n R lf k ≤ k * 255
  | 0, _ => by simp [szN]
  | k + 1, hk => by
    have ih := szN_le hn hv hT hR h k (by omega)
    have := step_small hn hv hT hR h k (by omega)
    rw [szN]
    omega
/-- So many digests are told by 64 bits. -/
theorem szN_lt {T : Tr} {n : Nat} {R : List Nat} (hn : n < 18446744073709551616) (hv : vd T = 0) (hT : 0 ≤ T.lf) (hR : Rws T (lv T n) R) {lf : Nat} (h : lf < R.getD 0 0) : szN T n R lf (R.length - 1) < 18446744073709551616 := by
  have h2 := hR.two
  have h255 := hR.most
  obtain ⟨k, hk⟩ : ∃ k, R.length = k + 2 := ⟨R.length - 2, by omega⟩
  rw [show R.length - 1 = k + 1 by omega, szN]
  have h1 := szN_le hn hv hT hR h k (by omega)
  have h3 := wT_lt hn hv hT hR h (k + 1) (by omega)
  obtain ⟨f1, f2, f3, f4, f5, f6⟩ := spot_facts hn hv hT hR (aw_has (n := n) hv hR h (k + 1) (by omega))
  have hbl : blw n R ((k + 1 : Nat) : Int) = R.getD k 0 := by unfold blw; rw [if_neg (by omega), Int.toNat_natCast]; rfl
  have hin := aw_in (n := n) hv hR h k (by omega)
  cases k with
  | zero =>
    have h0 : szN T n R lf 0 = 0 := rfl
    rw [h0]
    omega
  | succ k =>
    have h4 := (row_half hv hR k (by omega)).1
    rw [hbl] at f5
    unfold wT at *
    omega
/-- How many lie ahead and behind in a step. -/
def bw (T : Tr) (R : List Nat) (lf i : Nat) : Nat := aw T R lf i - wF T R lf (i + 1)
def af (T : Tr) (n : Nat) (R : List Nat) (lf i : Nat) : Nat := wT T n R lf (i + 1) - aw T R lf i - 1
theorem szN_succ {T : Tr} {n : Nat} {R : List Nat} (hv : vd T = 0) (hR : Rws T (lv T n) R) {lf : Nat} (h : lf < R.getD 0 0) (i : Nat) (hi : i + 1 < R.length) : szN T n R lf (i + 1) = szN T n R lf i + (bw T R lf i + af T n R lf i) := by
  have hin := aw_in (n := n) hv hR h i hi
  rw [szN]
  unfold bw af wT wF at *
  omega
theorem szN_mono (T : Tr) (n : Nat) (R : List Nat) (lf : Nat) : ∀ k j, szN T n R lf k ≤ szN T n R lf (k + j)
  | k, 0 => Nat.le_refl _
  | k, j + 1 => by
    have := szN_mono T n R lf k j
    rw [← Nat.add_assoc, szN]
    omega
/-- A step that the bytes tell. -/
def upT (T : Tr) (n : Nat) (R : List Nat) (lf m : Nat) (zs : List Int) (i : Nat) : Stp := (dgL zs (16 + szN T n R lf i * m) m (bw T R lf i), dgL zs (16 + szN T n R lf i * m + bw T R lf i * m) m (af T n R lf i))
/-- A list of rows of bytes that a call owns. -/
def OL (w : World) (B : Nat) (v : Value) (ls : List (List Int)) : Prop := ∃ xs, w.ownsRow B 24 1 v ls.length xs ∧ EL w B xs ls.length (fun r => ls.getD r [])
theorem OL.below {w w' : World} {B : Nat} {v : Value} {ls : List (List Int)} (h : OL w B v ls) (hb : Below w.heap.size w w') : OL w' B v ls := by
  obtain ⟨xs, h1, h2⟩ := h
  exact ⟨xs, ow_below h1 hb, h2.below hb⟩
theorem OL.grown {w w' : World} {B B' n' s' : Nat} {v : Value} {ls : List (List Int)} {t' : TypeId} {v' : Value} {ys : List Value} (h : OL w B v ls) (ho : w.ownsRow B' t' s' v' n' ys) (ht : t' ≠ 5) (ht2 : t' ≠ 24) (hg : w.grownBy w' v'.ownBlock) : OL w' B v ls := by
  obtain ⟨xs, h1, h2⟩ := h
  exact ⟨xs, ow_grownBy h1 hg (fun k hk => ow_ne h1 ho (Ne.symm ht2) k hk), h2.grown ho ht hg⟩
theorem ow_set {w : World} {B n s p o : Nat} {t : TypeId} {v u : Value} {xs : List Value} (h : w.ownsRow B t s v n xs) (hp : p < B) : (w.setCell ⟨p, o, none⟩ u).ownsRow B t s v n xs := by
  rcases h.2 with ⟨rfl, h0⟩ | ⟨g, cap, cur, rfl, hg, hh, hn, hm, hc, ht⟩
  · exact ⟨h.1, .inl ⟨rfl, h0⟩⟩
  · exact ⟨h.1, .inr ⟨g, cap, cur, rfl, hg, blk_other hh (by omega), hn, hm, hc, ht⟩⟩
theorem OL.set {w : World} {B p o : Nat} {v u : Value} {ls : List (List Int)} (h : OL w B v ls) (hp : p < B) : OL (w.setCell ⟨p, o, none⟩ u) B v ls := by
  obtain ⟨xs, h1, h2⟩ := h
  exact ⟨xs, ow_set h1 hp, h2.1, fun r hr => by obtain ⟨x, h3, h4⟩ := h2.2 r hr; exact ⟨x, h3, ow_set h4 hp⟩⟩
theorem OL.base {w : World} {B B' : Nat} {v : Value} {ls : List (List Int)} (h : OL w B v ls) (hb : B' ≤ B) : OL w B' v ls := by
  obtain ⟨xs, h1, h2⟩ := h
  exact ⟨xs, ow_base h1 hb, h2.1, fun r hr => by obtain ⟨x, h3, h4⟩ := h2.2 r hr; exact ⟨x, h3, ow_base h4 hb⟩⟩
theorem OL.one {w : World} {B : Nat} {v : Value} {ls : List (List Int)} (h : OL w B v ls) : ∃ a c, v = .slice a ls.length c ∧ Ls w a ls := by
  obtain ⟨xs, h1, h2⟩ := h
  exact h2.ls h1
/-- The steps that a call owns. -/
structure OwS (w : World) (B : Nat) (v : Value) (k : Nat) (f : Nat → Stp) (xs : List Value) : Prop where
  own : w.ownsRow B 65 2 v k xs
  get : ∀ i, i < k → ∃ u u', xs[i * 2]? = some u ∧ xs[i * 2 + 1]? = some u' ∧ OL w B u (f i).1 ∧ OL w B u' (f i).2
theorem OwS.below {w w' : World} {B k : Nat} {v : Value} {f : Nat → Stp} {xs : List Value} (h : OwS w B v k f xs) (hb : Below w.heap.size w w') : OwS w' B v k f xs :=
  ⟨ow_below h.own hb, fun i hi => by obtain ⟨u, u', h1, h2, h3, h4⟩ := h.get i hi; exact ⟨u, u', h1, h2, h3.below hb, h4.below hb⟩⟩
theorem OwS.set {w : World} {B k p o : Nat} {v u0 : Value} {f : Nat → Stp} {xs : List Value} (h : OwS w B v k f xs) (hp : p < B) : OwS (w.setCell ⟨p, o, none⟩ u0) B v k f xs :=
  ⟨ow_set h.own hp, fun i hi => by obtain ⟨u, u', h1, h2, h3, h4⟩ := h.get i hi; exact ⟨u, u', h1, h2, h3.set hp, h4.set hp⟩⟩
theorem OL.setR {w : World} {B p : Nat} {v : Value} {cs : Array Value} {ls : List (List Int)} (h : OL w B v ls) (hp : p < B) : OL (w.setRow p cs) B v ls := by
  obtain ⟨xs, h1, h2⟩ := h
  exact ⟨xs, ow_other h1 hp, h2.1, fun r hr => by obtain ⟨x, h3, h4⟩ := h2.2 r hr; exact ⟨x, h3, ow_other h4 hp⟩⟩
theorem OwS.setR {w : World} {B k p : Nat} {v : Value} {cs : Array Value} {f : Nat → Stp} {xs : List Value} (h : OwS w B v k f xs) (hp : p < B) : OwS (w.setRow p cs) B v k f xs :=
  ⟨ow_other h.own hp, fun i hi => by obtain ⟨u, u', h1, h2, h3, h4⟩ := h.get i hi; exact ⟨u, u', h1, h2, h3.setR hp, h4.setR hp⟩⟩
theorem OwS.base {w : World} {B B' k : Nat} {v : Value} {f : Nat → Stp} {xs : List Value} (h : OwS w B v k f xs) (hb : B' ≤ B) : OwS w B' v k f xs :=
  ⟨ow_base h.own hb, fun i hi => by obtain ⟨u, u', h1, h2, h3, h4⟩ := h.get i hi; exact ⟨u, u', h1, h2, h3.base hb, h4.base hb⟩⟩
/-- One step more. -/
theorem OwS.more {w w' : World} {B k : Nat} {v v' x x' : Value} {f : Nat → Stp} {xs : List Value} (h : OwS w B v k f xs) (hx : OL w B x (f k).1) (hx' : OL w B x' (f k).2) (ho : w'.ownsRow B 65 2 v' (k + 1) (xs ++ [x, x'])) (hg : w.grownBy w' v.ownBlock) : OwS w' B v' (k + 1) f (xs ++ [x, x']) := by
  have hl : xs.length = k * 2 := h.own.1
  refine ⟨ho, fun i hi => ?_⟩
  rcases Nat.lt_or_ge i k with h1 | h1
  · obtain ⟨u, u', k1, k2, k3, k4⟩ := h.get i h1
    exact ⟨u, u', by rw [List.getElem?_append_left (by omega)]; exact k1, by rw [List.getElem?_append_left (by omega)]; exact k2, k3.grown h.own (by decide) (by decide) hg, k4.grown h.own (by decide) (by decide) hg⟩
  · obtain rfl : i = k := by omega
    exact ⟨x, x', by rw [List.getElem?_append_right (by omega), hl, Nat.sub_self]; rfl, by rw [List.getElem?_append_right (by omega), hl, show i * 2 + 1 - i * 2 = 1 by omega]; rfl, hx.grown h.own (by decide) (by decide) hg, hx'.grown h.own (by decide) (by decide) hg⟩
/-- Such steps are ones that can be read. -/
theorem OwS.sts {w : World} {B k : Nat} {v : Value} {f : Nat → Stp} {xs : List Value} (h : OwS w B v k f xs) : ∃ a c, v = .slice a k c ∧ Sts w a ((List.range k).map f) := by
  have hlen : ((List.range k).map f).length = k := by simp
  have hget : ∀ i, i < k → ((List.range k).map f).getD i ([], []) = f i := fun i hi => by simp [List.getD_eq_getElem?_getD, hi]
  rcases h.own.2 with ⟨rfl, h0⟩ | ⟨g, cap, cur, rfl, hg, hh, hn, hm, hc, ht⟩
  · exact ⟨none, 0, by rw [h0], .inl (by rw [h0]; rfl)⟩
  · refine ⟨_, cap, rfl, .inr ⟨g, 0, rfl, fun i hi => ?_⟩⟩
    rw [hlen] at hi
    obtain ⟨u, u', k1, k2, k3, k4⟩ := h.get i hi
    obtain ⟨A, K, rfl, l1⟩ := k3.one
    obtain ⟨A', K', rfl, l2⟩ := k4.one
    have hcl : ∀ j x, j < k * 2 → xs[j]? = some x → w.cell? ⟨g, 0 + j, none⟩ = some x := fun j x hj hx => by
      refine blk_cell hh ?_
      rw [← ht, List.getElem?_take, if_pos hj] at hx
      simpa using hx
    rw [hget i hi]
    exact ⟨A, K, A', K', hcl _ _ (by omega) k1, by have := hcl _ _ (by omega) k2; rwa [← Nat.add_assoc] at this, l1, l2⟩
end LW
end Go.Proofs.Ytcpegipojkbcoaa
