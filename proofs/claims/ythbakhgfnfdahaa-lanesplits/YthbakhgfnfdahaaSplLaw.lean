/-
  The walk of LaneSplits: it returns true for every input.
-/
import Derived.Test.YthbakhgfnfdahaaLSplit
import Derived.Test.YthbakhgfnfdahaaWideP
import Derived.Outline
namespace Go.Proofs.Ythbakhgfnfdahaa
open Go.RowKit Go.ChangeShapes
set_option linter.unusedVariables false
set_option linter.unusedSimpArgs false
namespace LW
open Words
/-- Lanes, if there are any, that lie in rows of the call's own. -/
def Lnd (w : World) (base : Nat) (al : Option Addr) (n : Nat) (L : Nat → List Int) : Prop := 0 < n → ∃ g qs, al = some ⟨g, 0, none⟩ ∧ Lst w base g n L n qs ∧ base ≤ g
theorem Lnd.below {w w' : World} {base n : Nat} {al : Option Addr} {L : Nat → List Int} (h : Lnd w base al n L) (hb : Below w.heap.size w w') : Lnd w' base al n L := fun h0 => by
  obtain ⟨g, qs, h1, h2, h3⟩ := h h0
  exact ⟨g, qs, h1, h2.below hb, h3⟩
theorem Lnd.get {w : World} {base n i : Nat} {al : Option Addr} {L : Nat → List Int} (h : Lnd w base al n L) (hi : i < n) :
    ∃ g a' c', al = some ⟨g, 0, none⟩ ∧ w.cell? ⟨g, i, none⟩ = some (.slice a' (L i).length c') ∧ Row w a' (L i) := by
  obtain ⟨g, qs, h1, h2, h3⟩ := h (by omega)
  obtain ⟨v, hv, ho⟩ := h2.2.2 i hi
  obtain ⟨a', c', rfl, hr, _⟩ := row_of_own ho
  exact ⟨g, a', c', h1, (ref_cell h2.1 hv).1, hr⟩
theorem Lnd.spoilt {w W : World} {base n i : Nat} {al : Option Addr} {L : Nat → List Int} (h : Lnd w base al n L) (hu : U w W) (hi : i < n) :
    ∃ g v ys, al = some ⟨g, 0, none⟩ ∧ W.cell? ⟨g, i, none⟩ = some v ∧ W.ownsRow base 5 1 v (L i).length (vs ys) := by
  obtain ⟨g, qs, h1, h2, h3⟩ := h (by omega)
  obtain ⟨v, hv, ho⟩ := h2.2.2 i hi
  obtain ⟨ys, hy⟩ := own_U ho hu
  exact ⟨g, v, ys, h1, (ref_cell (hu.two g _ _ _ h2.1 (by decide)) hv).1, hy⟩
/-- What both calls Split answer, of whatever kind. -/
def SpP (w : World) (n : Nat) (E : Int) (L : Nat → List Int) (e : Ending) (w' : World) : Prop := ∃ al c, e = .returned (.tuple #[.slice al n c, .int .i64 E]) ∧ Lnd w' w.heap.size al n L ∧ Below w.heap.size w w'
theorem lsplitU (k : Int) (a : Option Addr) (cap : Nat) (zs : List Int) (w : World) (hr : Row w a zs) (hcap : zs.length ≤ cap) (hm : zs.length ≤ 140737488351232) :
    Calls Try.prog 9 #[.int .i64 k, .slice a zs.length cap] w fun e w' => SpP w (nl k) (ke k) (laL (bb k) zs) e w' := by
  rcases kinds k with h | h | h
  · refine (lsplit k a cap zs w (.inl h) hr hcap hm).mono ?_
    rintro e w' ⟨g, qs, rfl, h1, h2, h3⟩
    exact ⟨_, _, by rw [show ke k = 0 by rw [h]; rfl], fun _ => ⟨g, qs, rfl, h1, h2⟩, h3⟩
  · refine (lsplit k a cap zs w (.inr h) hr hcap hm).mono ?_
    rintro e w' ⟨g, qs, rfl, h1, h2, h3⟩
    exact ⟨_, _, by rw [show ke k = 0 by rw [h]; rfl], fun _ => ⟨g, qs, rfl, h1, h2⟩, h3⟩
  · refine (lsplitNo k a zs.length cap w h).mono ?_
    rintro e w' ⟨rfl, h3⟩
    have h0 : nl k = 0 := by simp [nl, h.1, h.2]
    refine ⟨none, 0, by rw [h0, show ke k = 1 by simp [ke, h.1, h.2]], fun h => by omega, h3⟩
theorem rsplitU (k : Int) (a : Option Addr) (cap : Nat) (zs : List Int) (w : World) (hr : Row w a zs) (hm : zs.length ≤ 140737488351232) :
    Calls Try.prog 8 #[.int .i64 k, .slice a zs.length cap] w fun e w' => SpP w (nl k) (ke k) (laL (bb k) zs) e w' := by
  rcases kinds k with h | h | h
  · refine (rsplit k a cap zs w (.inl h) hr hm).mono ?_
    rintro e w' ⟨g, qs, rfl, h1, h2, h3⟩
    exact ⟨_, _, by rw [show ke k = 0 by rw [h]; rfl], fun _ => ⟨g, qs, rfl, h1, h2⟩, h3⟩
  · refine (rsplit k a cap zs w (.inr h) hr hm).mono ?_
    rintro e w' ⟨g, qs, rfl, h1, h2, h3⟩
    exact ⟨_, _, by rw [show ke k = 0 by rw [h]; rfl], fun _ => ⟨g, qs, rfl, h1, h2⟩, h3⟩
  · refine (rsplitNo k a zs.length cap w h).mono ?_
    rintro e w' ⟨rfl, rfl⟩
    have h0 : nl k = 0 := by simp [nl, h.1, h.2]
    refine ⟨none, 0, by rw [h0, show ke k = 1 by simp [ke, h.1, h.2]], fun h => by omega, Below.refl _ _⟩
theorem Row.front {w : World} {f : Nat} {zs ys : List Int} (h : Row w (some ⟨f, 0, none⟩) (zs ++ ys)) : Row w (some ⟨f, 0, none⟩) zs := by
  have := h.sub 0 zs.length (by simp)
  simpa using this
theorem full_form {W : World} {B : Nat} {v : Value} {zs : List Int} (h : W.ownsRow B 5 1 v (zs.length + 70) (vs (wideL zs))) : ∃ f cf, v = .slice (some ⟨f, 0, none⟩) (zs.length + 70) cf ∧ f < W.heap.size ∧ Row W (some ⟨f, 0, none⟩) (wideL zs) ∧ zs.length + 70 ≤ cf := by
  have h' := h
  rw [← wideL_length] at h'
  obtain ⟨f, cf, h1, h2, h3⟩ := own_some h (by omega)
  obtain ⟨a2, c2, h4, h5, _⟩ := row_of_own h'
  rw [h1, wideL_length] at h4
  simp only [Value.slice.injEq, true_and] at h4
  obtain ⟨rfl, rfl⟩ := h4
  refine ⟨f, cf, h1, h3, h5, ?_⟩
  rcases h.2 with ⟨h6, _⟩ | ⟨g, cap, cur, h6, _, _, h7, _⟩
  · rw [h1] at h6; cases h6
  · rw [h1] at h6
    simp only [Value.slice.injEq] at h6
    obtain ⟨_, _, rfl⟩ := h6
    exact h7
set_option maxRecDepth 100000 in
set_option maxHeartbeats 4000000 in
theorem splits (k : Int) (a : Option Addr) (cap : Nat) (zs : List Int) (w : World) (hr : Row w a zs) (hn : a = none → cap = 0) (hm : zs.length ≤ 140737488351232) :
    Calls Try.prog 4 #[.int .i64 k, .slice a zs.length cap] w fun e w' => e = .returned (.bool true) ∧ Below w.heap.size w w' := by
  have c1 := wide a cap zs w hr hn hm
  have c2 := fun (W : World) (h : Below w.heap.size w W) => rsplitU k a cap zs W (hr.below h) hm
  have c3 := fun (W : World) (f cf : Nat) (h : Row W (some ⟨f, 0, none⟩) (wideL zs)) (hc : zs.length + 70 ≤ cf) => lsplitU k (some ⟨f, 0, none⟩) cf zs W (Row.front h) (by omega) hm
  have c4 := fun (W : World) (f cf : Nat) (h : Row W (some ⟨f, 0, none⟩) (wideL zs)) (h2 : Below w.heap.size w W) => kept (some ⟨f, 0, none⟩) a cf cap zs W h (hr.below h2) hn hm
  have hfull := fun (W : World) (B : Nat) (v : Value) (h : W.ownsRow B 5 1 v (zs.length + 70) (vs (wideL zs))) => full_form h
  have hn8 : nl k ≤ 8 := by unfold nl; split <;> (try split) <;> omega
  have hLl : ∀ i, (laL (bb k) zs i).length ≤ 140737488351232 := fun i => by
    rw [laL_length]
    by_cases hk : k = 2
    · have := cnt_le (n := 8) (B := bb k) (l := i) (T := zs.length) (.inr ⟨rfl, by simp [bb, hk]⟩); omega
    · have := cnt_le (n := 4) (B := bb k) (l := i) (T := zs.length) (.inl ⟨rfl, by simp [bb, hk]⟩); omega
  generalize laL (bb k) zs = L at *
  generalize nl k = n at *
  generalize ke k = E at *
  have hS := fun (i : Nat) (W : World) (x x' : Option Addr) (cx cx' : Nat) (h1 : Row W x (L i)) (h2 : Row W x' (L i)) => by
    have h := same x x' cx cx' (L i) (L i) W h1 h2 (by have := hLl i; unfold maxLen; omega) (by have := hLl i; unfold maxLen; omega)
    simpa using h
  have hP := fun (i B : Nat) (v : Value) (ys : List Int) (W : World) (h : W.ownsRow B 5 1 v (L i).length (vs ys)) (hB : B ≤ W.heap.size) => spoilP B (L i).length v ys W h hB (hLl i)
  obtain ⟨len, hlen⟩ : ∃ len, zs.length = len := ⟨_, rfl⟩
  rw [hlen] at c1 hm ⊢
  simp only [hlen] at c2 c3 c4 hfull
  have C1 := TW.hide c1
  have C2 := TW.hide c2
  have C3 := TW.hide c3
  have C4 := TW.hide c4
  have HS := TW.hide hS
  have HP := TW.hide hP
  have HFU := TW.hide hfull
  clear c1 c2 c3 c4 hS hP hfull hr hn hlen hLl
  have eE : (E != E) = false := by simp
  have eN : ((n : Int) != (n : Int)) = false := by simp
  go_enter Try.func4, Try.ntmps4
  go_wp2_with fail
  refine C1.out.mono ?_
  rintro e w1 ⟨v, rfl, hown, hb1⟩
  obtain ⟨f, cf, rfl, hfl, hfr, hcf⟩ := HFU.out _ _ _ hown
  have B1 := TW.hide hb1
  have F1 := TW.hide hfr
  clear hown hb1 hfr
  have hlI : (len : Int) ≤ (cf : Int) := by omega
  go_wp2_with fail
  refine (C2.out _ B1.out).mono ?_
  rintro e w2 ⟨am, cm, rfl, hlm, hb2⟩
  have LM := TW.hide hlm
  have B2 : Hid (Below w.heap.size w w2) := below_row B1.out hb2 B1.out.size
  have F2 := TW.hide (F1.out.below hb2)
  clear hlm hb2 B1 F1
  go_wp2
  go_loopw [8] (fun i wr => ∃ x : Nat, x ≤ 3 ∧ i = .int .i64 x ∧ Below w2.heap.size w2 wr) (fun i _ => 3 - (intOf i).toNat)
  case atStart => exact ⟨0, Nat.zero_le _, rfl, Below.refl _ _⟩
  case round =>
    rename_i Q0 K0 a0
    obtain ⟨x, hx, rfl, hbx⟩ := hrel
    have BX := TW.hide hbx
    clear hbx
    by_cases hx3 : x < 3
    · have hxI : (x : Int) < 3 := by omega
      have FX := TW.hide (F2.out.below BX.out)
      have MX := TW.hide (LM.out.below BX.out)
      go_wp2_with fail
      refine (C3.out _ f cf FX.out hcf).mono ?_
      rintro e w3 ⟨al, cl, rfl, hl3, hb3⟩
      have L3 := TW.hide hl3
      have B3 := TW.hide hb3
      have M3 := TW.hide (MX.out.below hb3)
      clear hl3 hb3 FX MX
      obtain ⟨wo, hwo⟩ : ∃ wo : World, wo = wr := ⟨_, rfl⟩
      subst hwo
      go_wp2
      go_loopw [11] (fun i wr => ∃ (j q : Nat), j ≤ n ∧ i = .int .i64 j ∧ wr = w3.drewN q) (fun i _ => n - (intOf i).toNat)
      case atStart => exact ⟨0, 0, Nat.zero_le _, rfl, rfl⟩
      case round =>
        rename_i Q1 K1 a1
        obtain ⟨j, q, hj, rfl, hwq⟩ := hrel
        have HQ := TW.hide hwq
        have BQ : Hid (Below w3.heap.size w3 wr) := by rw [hwq]; exact below_drewN (Below.refl _ _) q
        clear hwq
        by_cases hlt : j < n
        · obtain ⟨gm, a', c', rfl, hm1, hm2⟩ := (M3.out.below BQ.out).get hlt
          obtain ⟨gl, a2, c2, rfl, hl1, hl2⟩ := (L3.out.below BQ.out).get hlt
          have SMK := TW.hide (fun N => HS.out j (wr.drewN N) a2 a' c2 c' (hl2.drewN N) (hm2.drewN N))
          have hkI : (0 : Int) ≤ (j : Int) := Int.natCast_nonneg _
          have hkJ : (j : Int) < (n : Int) := by omega
          clear hm2 hl2
          generalize (L j).length = ll at *
          go_wp2
          go_quiet ((go_at_call 10; exact Calls.quiet_of (SMK.out _)))
          go_wp2
          go_roundw
          case rel => exact ⟨j + 1, q + nq, by omega, by go_num, by rw [HQ.out, World.drewN_drewN]⟩
          case measure => simp [intOf]; omega
        · have HA := TW.hide a1
          clear a1
          have BT : Hid (Below wo.heap.size wo wr) := by rw [HQ.out]; exact below_drewN B3.out q
          have UT : Hid (U w3 wr) := U.below BQ.out
          clear HQ
          go_wp2
          refine HA.out _ _ ?_
          clear HA
          go_wp2
          obtain ⟨wp, hwp⟩ : ∃ wp : World, wp = wr := ⟨_, rfl⟩
          subst hwp
          go_loopw [12] (fun i wr => ∃ (j : Nat), j ≤ n ∧ i = .int .i64 j ∧ Below wo.heap.size wo wr ∧ U w3 wr) (fun i _ => n - (intOf i).toNat)
          case atStart => exact ⟨0, Nat.zero_le _, rfl, BT.out, UT.out⟩
          case round =>
            obtain ⟨j2, hj2, rfl, hbt, hut⟩ := hrel
            clear BT UT
            have BT := TW.hide hbt
            have UT := TW.hide hut
            clear hbt hut
            by_cases hlt2 : j2 < n
            · obtain ⟨gl, v, ys, rfl, hc, ho⟩ := L3.out.spoilt UT.out hlt2
              have SPK := TW.hide (HP.out j2 wo.heap.size v ys wr ho BT.out.size)
              have hkI : (0 : Int) ≤ (j2 : Int) := Int.natCast_nonneg _
              have hkJ : (j2 : Int) < (n : Int) := by omega
              clear ho
              go_wp2_with fail
              refine SPK.out.mono ?_
              rintro e w4 ⟨⟨v4, rfl⟩, hb4, hu4⟩
              have B4 : Hid (Below wo.heap.size wo w4) := BT.out.trans hb4
              have U4 : Hid (U w3 w4) := UT.out.trans hu4
              clear hb4 hu4
              go_wp2
              go_roundw
              case rel => exact ⟨j2 + 1, by omega, by go_num, B4.out, U4.out⟩
              case measure => simp [intOf]; omega
            · have B5 : Hid (Below w2.heap.size w2 wr) := BX.out.trans (BT.out.mono BX.out.size)
              go_wp2
              go_roundw
              case rel => exact ⟨x + 1, by omega, by go_num, B5.out⟩
              case measure => simp [intOf]; omega
    · have hxI : ¬ (x : Int) < 3 := by omega
      have HA := TW.hide a0
      clear a0
      go_wp2
      refine HA.out _ _ ?_
      clear HA
      have FX := TW.hide (F2.out.below BX.out)
      have BW : Hid (Below w.heap.size w wr) := below_row B2.out BX.out B2.out.size
      go_wp2_with fail
      refine (C4.out _ f cf FX.out BW.out).mono ?_
      rintro e w6 ⟨rfl, hb6⟩
      have B6 : Hid (Below w.heap.size w w6) := below_row BW.out hb6 BW.out.size
      clear hb6
      go_wp2
      go_ret
      exact ⟨rfl, B6.out⟩
end LW
end Go.Proofs.Ythbakhgfnfdahaa
