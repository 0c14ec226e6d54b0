/-
  Plain facts (no Go in sight): a step undone is the step's beginning, and so for rounds.
-/
import Derived.Test.YtecepllidmkmhabDoorRoundL
namespace Go.Proofs.YtecepllidmkmhabDoor
open Go.RowKit
set_option linter.unusedVariables false
set_option linter.unusedSimpArgs false
namespace MX
open Turn
theorem su_of_ad (p q : Int) (h : W p) : su (ad p q) q = p := by
  obtain ⟨h0, h1⟩ := h
  unfold su ad; omega
theorem ad_su (p q : Int) (h : W p) : ad (su p q) q = p := by
  obtain ⟨h0, h1⟩ := h
  unfold su ad; omega
theorem xo_xo (p q : Int) (hp : W p) (hq : W q) : xo (xo p q) q = p := by
  have hx := xo_bd p q hp hq
  have e : (xo p q).toNat = p.toNat ^^^ q.toNat := by
    unfold xo
    rw [u32_xor p q hp.1 hp.2 hq.1 hq.2]
    rfl
  have h2 : xo (xo p q) q = (((xo p q).toNat ^^^ q.toNat : Nat) : Int) := u32_xor (xo p q) q hx.1 hx.2 hq.1 hq.2
  rw [h2, e, Nat.xor_assoc, Nat.xor_self, Nat.xor_zero]
  have := hp.1
  omega
theorem T_back (u n m : Int) (h : W u) (hn : (n + m) % 32 = 0) : T32 (T32 u n) m = u := by
  rw [T32_add u n m 0 (by omega)]
  exact T32_zero u 0 h.1 h.2 rfl
theorem unmix_mix (a b c d x y : Int) (ha : W a) (hb : W b) (hc : W c) (hd : W d) (hx : W x) (hy : W y) :
    unmixL (mixL a b c d x y).1 (mixL a b c d x y).2.1 (mixL a b c d x y).2.2.1 (mixL a b c d x y).2.2.2 x y = (a, b, c, d) := by
  simp only [mixL]
  have e1 : W (ad a (ad b x)) := ad_bd _ _
  generalize h1 : ad a (ad b x) = a1 at *
  have f1 : W (xo d a1) := xo_bd _ _ hd e1
  have e2 : W (T32 (xo d a1) 16) := T_bd _ _
  have k1 : T32 (T32 (xo d a1) 16) (-16) = xo d a1 := T_back _ _ _ f1 (by omega)
  generalize T32 (xo d a1) 16 = d1 at *
  have e3 : W (ad c d1) := ad_bd _ _
  generalize h3 : ad c d1 = c1 at *
  have f2 : W (xo b c1) := xo_bd _ _ hb e3
  have e4 : W (T32 (xo b c1) 12) := T_bd _ _
  have k2 : T32 (T32 (xo b c1) 12) (-12) = xo b c1 := T_back _ _ _ f2 (by omega)
  generalize T32 (xo b c1) 12 = b1 at *
  have e5 : W (ad a1 (ad b1 y)) := ad_bd _ _
  generalize h5 : ad a1 (ad b1 y) = a2 at *
  have f3 : W (xo d1 a2) := xo_bd _ _ e2 e5
  have k3 : T32 (T32 (xo d1 a2) 8) (-8) = xo d1 a2 := T_back _ _ _ f3 (by omega)
  generalize T32 (xo d1 a2) 8 = d2 at *
  have e7 : W (ad c1 d2) := ad_bd _ _
  generalize h7 : ad c1 d2 = c2 at *
  have f4 : W (xo b1 c2) := xo_bd _ _ e4 e7
  have k4 : T32 (T32 (xo b1 c2) 7) (-7) = xo b1 c2 := T_back _ _ _ f4 (by omega)
  generalize T32 (xo b1 c2) 7 = b2 at *
  unfold unmixL
  simp only [k4, k3, xo_xo b1 c2 e4 e7, xo_xo d1 a2 e2 e5]
  rw [← h7, su_of_ad c1 d2 e3, ← h5, su_of_ad a1 _ e1]
  simp only [k2, k1, xo_xo b c1 hb e3, xo_xo d a1 hd e1]
  rw [← h3, su_of_ad c d1 hc, ← h1, su_of_ad a _ ha]
theorem mix_unmix (a b c d x y : Int) (ha : W a) (hb : W b) (hc : W c) (hd : W d) (hx : W x) (hy : W y) :
    mixL (unmixL a b c d x y).1 (unmixL a b c d x y).2.1 (unmixL a b c d x y).2.2.1 (unmixL a b c d x y).2.2.2 x y = (a, b, c, d) := by
  simp only [unmixL]
  have w1 : W (T32 b (-7)) := T_bd _ _
  have k1 : T32 (T32 b (-7)) 7 = b := T_back _ _ _ hb (by omega)
  generalize T32 b (-7) = u1 at *
  have e1 : W (xo u1 c) := xo_bd _ _ w1 hc
  have r1 := xo_xo u1 c w1 hc
  generalize xo u1 c = b1 at *
  have e2 : W (su c d) := su_bd _ _
  have r2 := ad_su c d hc
  generalize su c d = c1 at *
  have w2 : W (T32 d (-8)) := T_bd _ _
  have k2 : T32 (T32 d (-8)) 8 = d := T_back _ _ _ hd (by omega)
  generalize T32 d (-8) = u2 at *
  have e3 : W (xo u2 a) := xo_bd _ _ w2 ha
  have r3 := xo_xo u2 a w2 ha
  generalize xo u2 a = d1 at *
  have e4 : W (su a (ad b1 y)) := su_bd _ _
  have r4 := ad_su a (ad b1 y) ha
  generalize su a (ad b1 y) = a1 at *
  have w3 : W (T32 b1 (-12)) := T_bd _ _
  have k3 : T32 (T32 b1 (-12)) 12 = b1 := T_back _ _ _ e1 (by omega)
  generalize T32 b1 (-12) = u3 at *
  have r5 := xo_xo u3 c1 w3 e2
  generalize xo u3 c1 = b2 at *
  have r6 := ad_su c1 d1 e2
  generalize su c1 d1 = c2 at *
  have w4 : W (T32 d1 (-16)) := T_bd _ _
  have k4 : T32 (T32 d1 (-16)) 16 = d1 := T_back _ _ _ e3 (by omega)
  generalize T32 d1 (-16) = u4 at *
  have r7 := xo_xo u4 a1 w4 e4
  generalize xo u4 a1 = d2 at *
  have r8 := ad_su a1 (ad b2 x) e4
  generalize su a1 (ad b2 x) = a2 at *
  simp only [mixL, r8, r7, k4, r6, r5, k3, r4, r3, k2, r2, r1, k1]
theorem put4_get (vs : List Int) (p0 p1 p2 p3 : Nat) (r : Int × Int × Int × Int) (h : vs.length = 16) (b0 : p0 < 16) (b1 : p1 < 16) (b2 : p2 < 16) (b3 : p3 < 16)
    (d1 : p0 ≠ p1) (d2 : p0 ≠ p2) (d3 : p0 ≠ p3) (d4 : p1 ≠ p2) (d5 : p1 ≠ p3) (d6 : p2 ≠ p3) :
    (put4 vs p0 p1 p2 p3 r).getD p0 0 = r.1 ∧ (put4 vs p0 p1 p2 p3 r).getD p1 0 = r.2.1 ∧ (put4 vs p0 p1 p2 p3 r).getD p2 0 = r.2.2.1 ∧ (put4 vs p0 p1 p2 p3 r).getD p3 0 = r.2.2.2 := by
  unfold put4
  refine ⟨?_, ?_, ?_, ?_⟩
  · rw [getD_set_other _ _ _ _ (Ne.symm d3), getD_set_other _ _ _ _ (Ne.symm d2), getD_set_other _ _ _ _ (Ne.symm d1), getD_set_same _ _ _ (by omega)]
  · rw [getD_set_other _ _ _ _ (Ne.symm d5), getD_set_other _ _ _ _ (Ne.symm d4), getD_set_same _ _ _ (by simp; omega)]
  · rw [getD_set_other _ _ _ _ (Ne.symm d6), getD_set_same _ _ _ (by simp; omega)]
  · rw [getD_set_same _ _ _ (by simp; omega)]
theorem put4_put4 (vs : List Int) (p0 p1 p2 p3 : Nat) (r : Int × Int × Int × Int) (h : vs.length = 16) (b0 : p0 < 16) (b1 : p1 < 16) (b2 : p2 < 16) (b3 : p3 < 16)
    (d1 : p0 ≠ p1) (d2 : p0 ≠ p2) (d3 : p0 ≠ p3) (d4 : p1 ≠ p2) (d5 : p1 ≠ p3) (d6 : p2 ≠ p3) :
    put4 (put4 vs p0 p1 p2 p3 r) p0 p1 p2 p3 (vs.getD p0 0, vs.getD p1 0, vs.getD p2 0, vs.getD p3 0) = vs := by
  apply List.ext_getElem?
  intro i
  simp only [put4, List.getElem?_set, List.length_set, List.getD_eq_getElem?_getD]
  by_cases h3 : p3 = i
  · subst h3; simp [List.getElem?_eq_getElem (show p3 < vs.length by omega)]; omega
  · by_cases h2 : p2 = i
    · subst h2; simp [h3, List.getElem?_eq_getElem (show p2 < vs.length by omega)]; omega
    · by_cases h1 : p1 = i
      · subst h1; simp [h3, h2, List.getElem?_eq_getElem (show p1 < vs.length by omega)]; omega
      · by_cases h0 : p0 = i
        · subst h0; simp [h3, h2, h1, List.getElem?_eq_getElem (show p0 < vs.length by omega)]; omega
        · simp [h0, h1, h2, h3]
theorem U_G (vs : List Int) (p0 p1 p2 p3 : Nat) (x y : Int) (h : vs.length = 16) (hV : Ws vs) (hx : W x) (hy : W y) (b0 : p0 < 16) (b1 : p1 < 16) (b2 : p2 < 16) (b3 : p3 < 16)
    (d1 : p0 ≠ p1) (d2 : p0 ≠ p2) (d3 : p0 ≠ p3) (d4 : p1 ≠ p2) (d5 : p1 ≠ p3) (d6 : p2 ≠ p3) : U4 (G4 vs p0 p1 p2 p3 x y) p0 p1 p2 p3 x y = vs := by
  unfold U4 G4
  obtain ⟨g0, g1, g2, g3⟩ := put4_get vs p0 p1 p2 p3 (mixL (vs.getD p0 0) (vs.getD p1 0) (vs.getD p2 0) (vs.getD p3 0) x y) h b0 b1 b2 b3 d1 d2 d3 d4 d5 d6
  rw [g0, g1, g2, g3, unmix_mix _ _ _ _ _ _ (hV.get _) (hV.get _) (hV.get _) (hV.get _) hx hy]
  exact put4_put4 vs p0 p1 p2 p3 _ h b0 b1 b2 b3 d1 d2 d3 d4 d5 d6
theorem G_U (vs : List Int) (p0 p1 p2 p3 : Nat) (x y : Int) (h : vs.length = 16) (hV : Ws vs) (hx : W x) (hy : W y) (b0 : p0 < 16) (b1 : p1 < 16) (b2 : p2 < 16) (b3 : p3 < 16)
    (d1 : p0 ≠ p1) (d2 : p0 ≠ p2) (d3 : p0 ≠ p3) (d4 : p1 ≠ p2) (d5 : p1 ≠ p3) (d6 : p2 ≠ p3) : G4 (U4 vs p0 p1 p2 p3 x y) p0 p1 p2 p3 x y = vs := by
  unfold U4 G4
  obtain ⟨g0, g1, g2, g3⟩ := put4_get vs p0 p1 p2 p3 (unmixL (vs.getD p0 0) (vs.getD p1 0) (vs.getD p2 0) (vs.getD p3 0) x y) h b0 b1 b2 b3 d1 d2 d3 d4 d5 d6
  rw [g0, g1, g2, g3, mix_unmix _ _ _ _ _ _ (hV.get _) (hV.get _) (hV.get _) (hV.get _) hx hy]
  exact put4_put4 vs p0 p1 p2 p3 _ h b0 b1 b2 b3 d1 d2 d3 d4 d5 d6
theorem unstep_step (vs ms s : List Int) (i : Nat) (h : vs.length = 16) (hV : Ws vs) (hM : Ws ms) (hi : i < 8) : unstepL (stepL vs ms s i) ms s i = vs := by
  obtain ⟨a0, a1, a2, a3, d1, d2, d3, d4, d5, d6, _⟩ := pl_all i hi
  exact U_G vs _ _ _ _ _ _ h hV (hM.get _) (hM.get _) a0 a1 a2 a3 d1 d2 d3 d4 d5 d6
theorem step_unstep (vs ms s : List Int) (i : Nat) (h : vs.length = 16) (hV : Ws vs) (hM : Ws ms) (hi : i < 8) : stepL (unstepL vs ms s i) ms s i = vs := by
  obtain ⟨a0, a1, a2, a3, d1, d2, d3, d4, d5, d6, _⟩ := pl_all i hi
  exact G_U vs _ _ _ _ _ _ h hV (hM.get _) (hM.get _) a0 a1 a2 a3 d1 d2 d3 d4 d5 d6
theorem back_forthTo (vs ms s : List Int) (h : vs.length = 16) (hV : Ws vs) (hM : Ws ms) (k : Nat) (hk : k ≤ 8) : backTo (forthTo vs ms s 8) ms s k = forthTo vs ms s (8 - k) := by
  induction k with
  | zero => rfl
  | succ k ih =>
    rw [backTo, ih (by omega), show 8 - k = (7 - k) + 1 by omega, forthTo, unstep_step _ ms s (7 - k) (by rw [forthTo_length, h]) (forthTo_Ws ms s _ hV) hM (by omega), show 8 - (k + 1) = 7 - k by omega]
theorem forth_backTo (vs ms s : List Int) (h : vs.length = 16) (hV : Ws vs) (hM : Ws ms) (k : Nat) (hk : k ≤ 8) : forthTo (backTo vs ms s 8) ms s k = backTo vs ms s (8 - k) := by
  induction k with
  | zero => rfl
  | succ k ih =>
    have e : 8 - k = (7 - k) + 1 := by omega
    rw [forthTo, ih (by omega), e, backTo, show 7 - (7 - k) = k by omega, step_unstep _ ms s k (by rw [backTo_length, h]) (backTo_Ws ms s _ hV) hM (by omega), show 8 - (k + 1) = 7 - k by omega]
/-- The way back of a round is the round's beginning, and the other way round. -/
theorem back_forth (vs ms : List Int) (r : Nat) (h : vs.length = 16) (hV : Ws vs) (hM : Ws ms) : backL (forthL vs ms r) ms r = vs := by
  unfold backL forthL
  exact back_forthTo vs ms _ h hV hM 8 (Nat.le_refl _)
theorem forth_back (vs ms : List Int) (r : Nat) (h : vs.length = 16) (hV : Ws vs) (hM : Ws ms) : forthL (backL vs ms r) ms r = vs := by
  unfold backL forthL
  exact forth_backTo vs ms _ h hV hM 8 (Nat.le_refl _)
end MX
end Go.Proofs.YtecepllidmkmhabDoor
