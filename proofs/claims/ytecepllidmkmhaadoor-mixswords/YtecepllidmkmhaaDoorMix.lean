/-
  What the calls mix and unmix give: one step of a round, there and back, for all words.
-/
import Derived.Test.YtecepllidmkmhaaDoorBase
namespace Go.Proofs.YtecepllidmkmhaaDoor
open Go.RowKit
set_option linter.unusedVariables false
namespace MX
open Turn

/-- Sum, difference and exclusive or of words of 32 bits. -/
def ad (a b : Int) : Int := (a + b) % 4294967296
def su (a b : Int) : Int := (a - b) % 4294967296
def xo (a b : Int) : Int := bits .xor .u32 a b
theorem ad_ad (a b x : Int) : ad a (ad b x) = (a + (b + x)) % 4294967296 := by unfold ad; omega
theorem su_ad (a b x : Int) : su a (ad b x) = (a - (b + x)) % 4294967296 := by unfold su ad; omega
/-- A word of 32 bits. -/
def W (a : Int) : Prop := 0 ≤ a ∧ a < 4294967296
theorem ad_bd (a b : Int) : W (ad a b) := by
  unfold ad W; omega
theorem su_bd (a b : Int) : W (su a b) := by
  unfold su W; omega
theorem xo_bd (a b : Int) (ha : W a) (hb : W b) : W (xo a b) := by
  unfold xo W
  rw [u32_xor a b ha.1 ha.2 hb.1 hb.2]
  have := Nat.xor_lt_two_pow (x := a.toNat) (y := b.toNat) (n := 32) (by have := ha.2; have := ha.1; omega) (by have := hb.2; have := hb.1; omega)
  omega
theorem T_bd (a n : Int) : W (T32 a n) := T32_bd a n
/-- One step: what becomes of four words by two words of the message. -/
def mixL (a b c d x y : Int) : Int × Int × Int × Int :=
  let a1 := ad a (ad b x)
  let d1 := T32 (xo d a1) 16
  let c1 := ad c d1
  let b1 := T32 (xo b c1) 12
  let a2 := ad a1 (ad b1 y)
  let d2 := T32 (xo d1 a2) 8
  let c2 := ad c1 d2
  let b2 := T32 (xo b1 c2) 7
  (a2, b2, c2, d2)
/-- The step back. -/
def unmixL (a b c d x y : Int) : Int × Int × Int × Int :=
  let b1 := xo (T32 b (-7)) c
  let c1 := su c d
  let d1 := xo (T32 d (-8)) a
  let a1 := su a (ad b1 y)
  let b2 := xo (T32 b1 (-12)) c1
  let c2 := su c1 d1
  let d2 := xo (T32 d1 (-16)) a1
  let a2 := su a1 (ad b2 x)
  (a2, b2, c2, d2)
theorem ret_four {k : IntKind} {a b c d a' b' c' d' : Int} (h1 : a = a') (h2 : b = b') (h3 : c = c') (h4 : d = d') :
    Ending.returned (.tuple #[.int k a, .int k b, .int k c, .int k d]) = .returned (.tuple #[.int k a', .int k b', .int k c', .int k d']) := by rw [h1, h2, h3, h4]
set_option maxHeartbeats 1000000 in
theorem mix (a b c d x y : Int) (w : World) (ha : W a) (hb : W b) (hc : W c) (hd : W d) (hx : W x) (hy : W y) :
    Calls Tryd.prog 50 #[.int .u32 a, .int .u32 b, .int .u32 c, .int .u32 d, .int .u32 x, .int .u32 y] w fun e w' =>
      e = .returned (.tuple #[.int .u32 (mixL a b c d x y).1, .int .u32 (mixL a b c d x y).2.1, .int .u32 (mixL a b c d x y).2.2.1, .int .u32 (mixL a b c d x y).2.2.2]) ∧ w = w' := by
  obtain ⟨a1, h1⟩ : ∃ z, ad a (ad b x) = z := ⟨_, rfl⟩
  obtain ⟨u1, k1⟩ : ∃ z, xo d a1 = z := ⟨_, rfl⟩
  obtain ⟨d1, h2⟩ : ∃ z, T32 u1 16 = z := ⟨_, rfl⟩
  obtain ⟨c1, h3⟩ : ∃ z, ad c d1 = z := ⟨_, rfl⟩
  obtain ⟨u2, k2⟩ : ∃ z, xo b c1 = z := ⟨_, rfl⟩
  obtain ⟨b1, h4⟩ : ∃ z, T32 u2 12 = z := ⟨_, rfl⟩
  obtain ⟨a2, h5⟩ : ∃ z, ad a1 (ad b1 y) = z := ⟨_, rfl⟩
  obtain ⟨u3, k3⟩ : ∃ z, xo d1 a2 = z := ⟨_, rfl⟩
  obtain ⟨d2, h6⟩ : ∃ z, T32 u3 8 = z := ⟨_, rfl⟩
  obtain ⟨c2, h7⟩ : ∃ z, ad c1 d2 = z := ⟨_, rfl⟩
  obtain ⟨u4, k4⟩ : ∃ z, xo b1 c2 = z := ⟨_, rfl⟩
  obtain ⟨b2, h8⟩ : ∃ z, T32 u4 7 = z := ⟨_, rfl⟩
  have hm : mixL a b c d x y = (a2, b2, c2, d2) := by
    simp only [mixL, h1, k1, h2, h3, k2, h4, h5, k3, h6, h7, k4, h8]
  rw [hm]
  have e1 : W a1 := h1 ▸ ad_bd _ _
  have f1 : W u1 := k1 ▸ xo_bd _ _ hd e1
  have e2 : W d1 := h2 ▸ T_bd _ _
  have e3 : W c1 := h3 ▸ ad_bd _ _
  have f2 : W u2 := k2 ▸ xo_bd _ _ hb e3
  have e4 : W b1 := h4 ▸ T_bd _ _
  have e5 : W a2 := h5 ▸ ad_bd _ _
  have f3 : W u3 := k3 ▸ xo_bd _ _ e2 e5
  have e6 : W d2 := h6 ▸ T_bd _ _
  have e7 : W c2 := h7 ▸ ad_bd _ _
  have f4 : W u4 := k4 ▸ xo_bd _ _ e4 e7
  have t1 := fun W => TW.turn32 u1 16 W f1.1 f1.2
  have t2 := fun W => TW.turn32 u2 12 W f2.1 f2.2
  have t3 := fun W => TW.turn32 u3 8 W f3.1 f3.2
  have t4 := fun W => TW.turn32 u4 7 W f4.1 f4.2
  rw [h2] at t1; rw [h4] at t2; rw [h6] at t3; rw [h8] at t4
  have T1 := TW.hide t1
  have T2 := TW.hide t2
  have T3 := TW.hide t3
  have T4 := TW.hide t4
  rw [ad_ad] at h1 h5
  unfold ad at h3 h7
  unfold xo at k1 k2 k3 k4
  clear t1 t2 t3 t4 h2 h4 h6 h8 hm e1 e2 e3 e4 e5 e6 e7 f1 f2 f3 f4 ha hb hc hd hx hy
  go_enter Tryd.func50, Tryd.ntmps50
  go_wp2_with fail
  refine (T1.out _).mono ?_
  rintro e w' ⟨rfl, rfl⟩
  go_wp2_with fail
  refine (T2.out _).mono ?_
  rintro e w' ⟨rfl, rfl⟩
  go_wp2_with fail
  refine (T3.out _).mono ?_
  rintro e w' ⟨rfl, rfl⟩
  go_wp2_with fail
  refine (T4.out _).mono ?_
  rintro e w' ⟨rfl, rfl⟩
  go_wp2_with fail
  exact bodyPost_ret (v := .tuple #[.int .u32 a2, .int .u32 b2, .int .u32 c2, .int .u32 d2]) (by simp [results, Tryd.results50, go_sem] <;> assumption) rfl ⟨rfl, rfl⟩
set_option maxHeartbeats 1000000 in
theorem unmix (a b c d x y : Int) (w : World) (ha : W a) (hb : W b) (hc : W c) (hd : W d) (hx : W x) (hy : W y) :
    Calls Tryd.prog 55 #[.int .u32 a, .int .u32 b, .int .u32 c, .int .u32 d, .int .u32 x, .int .u32 y] w fun e w' =>
      e = .returned (.tuple #[.int .u32 (unmixL a b c d x y).1, .int .u32 (unmixL a b c d x y).2.1, .int .u32 (unmixL a b c d x y).2.2.1, .int .u32 (unmixL a b c d x y).2.2.2]) ∧ w = w' := by
  obtain ⟨u1, k1⟩ : ∃ z, T32 b (-7) = z := ⟨_, rfl⟩
  obtain ⟨b1, h1⟩ : ∃ z, xo u1 c = z := ⟨_, rfl⟩
  obtain ⟨c1, h2⟩ : ∃ z, su c d = z := ⟨_, rfl⟩
  obtain ⟨u2, k2⟩ : ∃ z, T32 d (-8) = z := ⟨_, rfl⟩
  obtain ⟨d1, h3⟩ : ∃ z, xo u2 a = z := ⟨_, rfl⟩
  obtain ⟨a1, h4⟩ : ∃ z, su a (ad b1 y) = z := ⟨_, rfl⟩
  obtain ⟨u3, k3⟩ : ∃ z, T32 b1 (-12) = z := ⟨_, rfl⟩
  obtain ⟨b2, h5⟩ : ∃ z, xo u3 c1 = z := ⟨_, rfl⟩
  obtain ⟨c2, h6⟩ : ∃ z, su c1 d1 = z := ⟨_, rfl⟩
  obtain ⟨u4, k4⟩ : ∃ z, T32 d1 (-16) = z := ⟨_, rfl⟩
  obtain ⟨d2, h7⟩ : ∃ z, xo u4 a1 = z := ⟨_, rfl⟩
  obtain ⟨a2, h8⟩ : ∃ z, su a1 (ad b2 x) = z := ⟨_, rfl⟩
  have hm : unmixL a b c d x y = (a2, b2, c2, d2) := by
    simp only [unmixL, h1, k1, h2, h3, k2, h4, h5, k3, h6, h7, k4, h8]
  rw [hm]
  have f1 : W u1 := k1 ▸ T_bd _ _
  have e1 : W b1 := h1 ▸ xo_bd _ _ f1 hc
  have f2 : W u2 := k2 ▸ T_bd _ _
  have e3 : W d1 := h3 ▸ xo_bd _ _ f2 ha
  have t1 := fun W => TW.turn32 b (-7) W hb.1 hb.2
  have t2 := fun W => TW.turn32 d (-8) W hd.1 hd.2
  have t3 := fun W => TW.turn32 b1 (-12) W e1.1 e1.2
  have t4 := fun W => TW.turn32 d1 (-16) W e3.1 e3.2
  rw [k1] at t1; rw [k2] at t2; rw [k3] at t3; rw [k4] at t4
  have T1 := TW.hide t1
  have T2 := TW.hide t2
  have T3 := TW.hide t3
  have T4 := TW.hide t4
  rw [su_ad] at h4 h8
  unfold su at h2 h6
  unfold xo at h1 h3 h5 h7
  clear t1 t2 t3 t4 k1 k2 k3 k4 hm e1 e3 f1 f2 ha hb hc hd hx hy
  go_enter Tryd.func55, Tryd.ntmps55
  go_wp2_with fail
  refine (T1.out _).mono ?_
  rintro e w' ⟨rfl, rfl⟩
  go_wp2_with fail
  refine (T2.out _).mono ?_
  rintro e w' ⟨rfl, rfl⟩
  go_wp2_with fail
  refine (T3.out _).mono ?_
  rintro e w' ⟨rfl, rfl⟩
  go_wp2_with fail
  refine (T4.out _).mono ?_
  rintro e w' ⟨rfl, rfl⟩
  go_wp2_with fail
  exact bodyPost_ret (v := .tuple #[.int .u32 a2, .int .u32 b2, .int .u32 c2, .int .u32 d2]) (by simp [results, Tryd.results55, go_sem] <;> assumption) rfl ⟨rfl, rfl⟩
end MX
end Go.Proofs.YtecepllidmkmhaaDoor
