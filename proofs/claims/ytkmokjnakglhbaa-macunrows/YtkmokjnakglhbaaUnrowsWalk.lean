/-
  The walk of MacUnrows: it returns true for every row of bytes.
-/
import Derived.Test.YtkmokjnakglhbaaRUnrow
import Derived.Test.YtkmokjnakglhbaaByteArgs
namespace Go.Proofs.Ytkmokjnakglhbaa
open Go.RowKit Go.ChangeShapes
set_option linter.unusedVariables false
set_option linter.unusedSimpArgs false
namespace LW
open Words
theorem cell_blk {w W : World} {b o : Nat} (h : W.heap[b]? = w.heap[b]?) : W.cell? ⟨b, o, none⟩ = w.cell? ⟨b, o, none⟩ := World.cell?_of_block (w := w) h
theorem Row.front {w : World} {f : Nat} {zs ys : List Int} (h : Row w (some ⟨f, 0, none⟩) (zs ++ ys)) : Row w (some ⟨f, 0, none⟩) zs := by
  have := h.sub 0 zs.length (by simp)
  simpa using this
theorem own_f {w : World} {B n : Nat} {t : TypeId} {v : Value} {xs : List Value} (h : w.ownsRow B t 1 v n xs) : ∃ a c, v = .slice a n c := by
  rcases h.2 with ⟨rfl, h0⟩ | ⟨g, cap', cur, rfl, _⟩
  · exact ⟨none, 0, by rw [h0]⟩
  · exact ⟨_, _, rfl⟩
theorem grown_over {w w' w2 : World} {g : Nat} (h : w.grownBy w' (some g)) (hb : Below w'.heap.size w' w2) : w.grownBy w2 (some g) :=
  ⟨hb.os.trans h.os, hb.tape.trans h.tape, hb.output.trans h.output, Nat.le_trans h.size hb.size, fun k hk hne => by rw [hb.block k (Nat.lt_of_lt_of_le hk h.size)]; exact h.block k hk hne⟩
/-- The document's parts in a world in which all but block g stands. -/
theorem mfact {w3 W : World} {B g c cm k : Nat} {am : Option Addr} {zs : List Int} {ms : List Value} (hown : w3.ownsRow B 22 1 (.slice am c cm) c ms) (hdp : DP B zs c ms w3) (hgd : Gd zs c) (hW : ∀ b, b < w3.heap.size → b ≠ g → W.heap[b]? = w3.heap[b]?) (hg : g < B) (hk : k < c) :
    ∃ gm a' c', am = some ⟨gm, 0, none⟩ ∧ W.cell? ⟨gm, k, none⟩ = some (.slice a' (pn zs k) c') ∧ Row W a' (pie zs k) := by
  rcases hown.2 with ⟨h0, h1⟩ | ⟨gm, cap', cur, he, hb, hh, _⟩
  · omega
  · simp only [Value.slice.injEq, true_and] at he
    obtain ⟨rfl, rfl⟩ := he
    obtain ⟨cur', h1, _, _, h3⟩ := own_cur hown
    obtain ⟨v, h4, h5⟩ := hdp.2 k hk
    have hl := (Array.getElem?_eq_some_iff.1 h1).1
    obtain ⟨a', c', rfl⟩ := own_f h5
    refine ⟨gm, a', c', rfl, ?_, ?_⟩
    · rw [cell_blk (hW gm hl (by omega))]
      simp [World.cell?, h1, h3 k hk, h4]
    · have hpl := pie_length hgd hk
      have h5' := h5
      rw [← hpl] at h5'
      rcases h5'.2 with ⟨h0, h1⟩ | ⟨gp, cap2, cur2, he, hb2, hh2, _⟩
      · exact .inl (List.length_eq_zero_iff.1 h1)
      · simp only [Value.slice.injEq] at he
        obtain ⟨rfl, _, _⟩ := he
        refine .inr ⟨gp, 0, rfl, fun i hi => ?_⟩
        have hl2 := (Array.getElem?_eq_some_iff.1 hh2).1
        rw [cell_blk (hW gp hl2 (by omega)), Nat.zero_add]
        have hrow := row_of_own h5'
        obtain ⟨a2, c2, he2, hrow, _⟩ := hrow
        simp only [Value.slice.injEq] at he2
        obtain ⟨rfl, _, _⟩ := he2
        rcases hrow with h0 | ⟨b, off, he3, hc⟩
        · rw [h0] at hi; simp at hi
        · cases he3
          have := hc i hi
          rwa [Nat.zero_add] at this
/-- The program's parts in a world in which all but block g stands. -/
theorem lfact {w2 W : World} {B g c cl k : Nat} {al : Option Addr} {zs : List Int} {qs : List Value} (hown : w2.ownsRow B 22 1 (.slice al c cl) c qs) (hpv : PV g zs c qs) (hbk : Bk w2 g zs) (hW : ∀ b, b < w2.heap.size → b ≠ g → W.heap[b]? = w2.heap[b]?) (hk : k < c) :
    ∃ gl o, al = some ⟨gl, 0, none⟩ ∧ W.cell? ⟨gl, k, none⟩ = some (.slice (some ⟨g, o, none⟩) (pn zs k) (pn zs k)) ∧ (0 < pn zs k → o = pos zs k + 8) ∧ o + pn zs k ≤ zs.length := by
  rcases hown.2 with ⟨h0, h1⟩ | ⟨gl, cap', cur, he, hb, hh, _⟩
  · omega
  · simp only [Value.slice.injEq, true_and] at he
    obtain ⟨rfl, rfl⟩ := he
    obtain ⟨cur', h1, _, _, h3⟩ := own_cur hown
    obtain ⟨o, h4, h5, h6⟩ := hpv.2 k hk
    have hl := (Array.getElem?_eq_some_iff.1 h1).1
    have hne : gl ≠ g := by
      rintro rfl
      obtain ⟨c5, h7, _⟩ := hbk
      rw [h1] at h7
      simp at h7
    refine ⟨gl, o, rfl, ?_, h5, h6⟩
    rw [cell_blk (hW gl hl hne)]
    simp [World.cell?, h1, h3 k hk, h4]
theorem lrow {W : World} {g k o : Nat} {zs : List Int} (hbk : Bk W g zs) (h1 : 0 < pn zs k → o = pos zs k + 8) (h2 : o + pn zs k ≤ zs.length) : Row W (some ⟨g, o, none⟩) (pie zs k) := by
  by_cases h0 : 0 < pn zs k
  · obtain rfl := h1 h0
    exact hbk.row _ _ h2
  · left
    simp [pie]; omega
theorem full_form {W : World} {B : Nat} {v : Value} {zs : List Int} (h : W.ownsRow B 5 1 v (zs.length + 70) (vs (wideL zs))) : ∃ f cf, v = .slice (some ⟨f, 0, none⟩) (zs.length + 70) cf ∧ f < W.heap.size ∧ Row W (some ⟨f, 0, none⟩) (wideL zs) := by
  have h' := h
  rw [← wideL_length] at h'
  obtain ⟨f, cf, h1, h2, h3⟩ := own_some h (by omega)
  obtain ⟨a2, c2, h4, h5, _⟩ := row_of_own h'
  rw [h1, wideL_length] at h4
  simp only [Value.slice.injEq, true_and] at h4
  obtain ⟨rfl, rfl⟩ := h4
  exact ⟨f, cf, h1, h3, h5⟩
set_option maxRecDepth 100000 in
set_option maxHeartbeats 4000000 in
theorem unrows (a : Option Addr) (cap : Nat) (zs : List Int) (w : World) (hz : Byt zs) (hr : Row w a zs) (hn : a = none → cap = 0) (hcap : zs.length ≤ cap) (hm : zs.length ≤ 140737488351232) :
    Calls Try.prog 3 #[.slice a zs.length cap] w fun e w' => e = .returned (.bool true) ∧ Below w.heap.size w w' := by
  have hM : zs.length ≤ maxLen := by unfold maxLen; omega
  have c1 := wide a cap zs w hr hn hm
  have c2 := fun (W : World) (f cf : Nat) (h : Row W (some ⟨f, 0, none⟩) (wideL zs)) => unrow (some ⟨f, 0, none⟩) cf zs W hz (Row.front h) (fun h => by cases h) hM
  have c3 := fun (W : World) (h : Below w.heap.size w W) => runrow a cap zs W hz (hr.below h) hcap hM
  have c4 := fun (W : World) (f cf : Nat) (h : Row W (some ⟨f, 0, none⟩) (wideL zs)) (h2 : Below w.heap.size w W) => kept (some ⟨f, 0, none⟩) a cf cap zs W h (hr.below h2) hn hm
  have hS := fun (c k : Nat) (hg : Gd zs c) (hk : k < c) (W : World) (a a' : Option Addr) (c' : Nat) (h1 : Row W a (pie zs k)) (h2 : Row W a' (pie zs k)) => by
    have hb := hg k hk
    have hp := pos_succ zs k
    have h := same a a' (pn zs k) c' (pie zs k) (pie zs k) W h1 h2 (by rw [pie_length hg hk]; omega) (by rw [pie_length hg hk]; omega)
    rw [pie_length hg hk] at h
    simpa using h
  have hfull := fun (W : World) (B : Nat) (v : Value) (h : W.ownsRow B 5 1 v (zs.length + 70) (vs (wideL zs))) => full_form h
  have hspo := fun (W : World) (g o k : Nat) (hl : zs.length ≤ 16777216) (hb : Bts W g zs.length) (ho : o + pn zs k ≤ zs.length) => spoil g o (pn zs k) zs.length W hb ho hl
  obtain ⟨len, hlen⟩ : ∃ len, zs.length = len := ⟨_, rfl⟩
  rw [hlen] at c1 hcap hm hM ⊢
  simp only [hlen] at c2 c3 c4 hfull hspo
  have HLEN := TW.hide hlen
  have C1 := TW.hide c1
  have C2 := TW.hide c2
  have C3 := TW.hide c3
  have C4 := TW.hide c4
  have HS := TW.hide hS
  have HFU := TW.hide hfull
  have HSP := TW.hide hspo
  clear c1 c2 c3 c4 hS hfull hspo hr hn hz hlen
  go_enter Try.func3, Try.ntmps3
  go_wp2_with fail
  refine C1.out.mono ?_
  rintro e w1 ⟨v, rfl, hown, hb1⟩
  obtain ⟨f, cf, rfl, hfl, hfr⟩ := HFU.out _ _ _ hown
  have hcf : len + 70 ≤ cf := by
    obtain ⟨cur, _, _, h, _⟩ := own_cur hown
    exact h
  have B1 := TW.hide hb1
  have F1 := TW.hide hfr
  clear hown hb1 hfr
  have hlI : (len : Int) ≤ (cf : Int) := by omega
  go_wp2_with fail
  refine (C2.out _ f cf F1.out).mono ?_
  rintro e w2 ⟨er, at_, c, v, g, qs, hres, rfl, hown2, hpv, hg1, hbk, hb2⟩
  obtain ⟨al, cl, rfl⟩ := own_f hown2
  have RES := TW.hide hres
  have OL := TW.hide hown2
  have PVL := TW.hide hpv
  have BKL := TW.hide hbk
  have B2 : Hid (Below w1.heap.size w1 w2) := hb2
  have B12 : Hid (Below w.heap.size w w2) := B1.out.trans (hb2.mono B1.out.size)
  clear hres hown2 hpv hbk hb2
  go_wp2_with fail
  refine (C3.out _ B12.out).mono ?_
  rintro e w3 ⟨er', at', c', v, ms, hres', rfl, hown3, hdp, hb3⟩
  obtain ⟨rfl, rfl, rfl⟩ := RES.out.one hres'
  obtain ⟨am, cm, rfl⟩ := own_f hown3
  obtain ⟨hgd, hc8⟩ := RES.out.gd
  have GD := TW.hide hgd
  have s1 := B1.out.size
  have s2 := B2.out.size
  have s3 := hb3.size
  have B13 : Hid (Below w1.heap.size w1 w3) := B2.out.trans (hb3.mono B2.out.size)
  have B03 : Hid (Below w.heap.size w w3) := B12.out.trans (hb3.mono B12.out.size)
  have GL : Hid (0 < c → g < w2.heap.size) := fun h => (BKL.out h).lt
  -- what holds in every world in which all but block g stands
  have FA : Hid (∀ W : World, w3.grownBy W (some g) → Below w.heap.size w W ∧ Row W (some ⟨f, 0, none⟩) (wideL zs)) := fun W hW => by
    refine ⟨B03.out.grown hW (by omega) (fun k hk => by cases hk; omega), ?_⟩
    exact F1.out.below (B13.out.grown hW (by omega) (fun k hk => by cases hk; exact hg1))
  have FM : Hid (∀ W : World, w3.grownBy W (some g) → ∀ k, k < c → ∃ gm a' c', am = some ⟨gm, 0, none⟩ ∧ W.cell? ⟨gm, k, none⟩ = some (.slice a' (pn zs k) c') ∧ Row W a' (pie zs k)) := fun W hW k hk =>
    mfact hown3 hdp GD.out (fun b hb hne => hW.block b hb (by simpa using hne)) (GL.out (by omega)) hk
  have FL : Hid (∀ W : World, w3.grownBy W (some g) → ∀ k, k < c → ∃ gl o, al = some ⟨gl, 0, none⟩ ∧ W.cell? ⟨gl, k, none⟩ = some (.slice (some ⟨g, o, none⟩) (pn zs k) (pn zs k)) ∧ (0 < pn zs k → o = pos zs k + 8) ∧ o + pn zs k ≤ zs.length) := fun W hW k hk =>
    lfact OL.out PVL.out (BKL.out (by omega)) (fun b hb hne => by rw [hW.block b (by omega) (by simpa using hne), hb3.block b hb]) hk
  have BK3 : Hid (0 < c → Bk w3 g zs) := fun h => (BKL.out h).below hb3
  have hL : 0 < c → zs.length ≤ 16777216 := fun h => by
    rcases RES.out with ⟨_, _, _, h0⟩ | ⟨h0, _⟩
    · omega
    · exact h0
  have HL := TW.hide hL
  clear hown3 hdp hb3 hres' hgd hL C1 C3 OL PVL BKL B12 B13
  have e1 : ((er : Int) != (er : Int)) = false := by simp
  have e2 : ((at_ : Int) != (at_ : Int)) = false := by simp
  have e3 : ((c : Int) != (c : Int)) = false := by simp
  have hcM : c ≤ 16777216 := by omega
  go_wp2
  go_loopw [10] (fun i wr => ∃ (k q : Nat), k ≤ c ∧ i = .int .i64 k ∧ wr = w3.drewN q) (fun i _ => c - (intOf i).toNat)
  case atStart => exact ⟨0, 0, Nat.zero_le _, rfl, rfl⟩
  case round =>
    rename_i Q1 K1 a1
    obtain ⟨k, q, hk, rfl, hwq⟩ := hrel
    have HQ := TW.hide hwq
    have GR : Hid (w3.grownBy wr (some g)) := by show World.grownBy _ _ _; rw [hwq]; exact ⟨rfl, rfl, rfl, Nat.le_refl _, fun _ _ _ => rfl⟩
    clear hwq
    by_cases hlt : k < c
    · obtain ⟨gm, a', c', rfl, hm1, hm2⟩ := FM.out wr GR.out k hlt
      obtain ⟨gl, o, rfl, hl1, hl2, hl3⟩ := FL.out wr GR.out k hlt
      have hbk : Bk wr g zs := by rw [HQ.out]; exact BK3.out (by omega)
      have SMK := TW.hide (fun n => HS.out c k GD.out hlt (wr.drewN n) (some ⟨g, o, none⟩) a' c' (lrow hbk hl2 hl3) hm2)
      have hkI : (0 : Int) ≤ (k : Int) := Int.natCast_nonneg _
      have hkJ : (k : Int) < (c : Int) := by omega
      clear hm2 hl2 hl3 hbk
      go_wp2
      go_quiet ((go_at_call 7; exact Calls.quiet_of (SMK.out _)))
      go_wp2
      go_roundw
      case rel => exact ⟨k + 1, q + nq, by omega, by go_num, by rw [HQ.out, World.drewN_drewN]⟩
      case measure => simp [intOf]; omega
    · have HA := TW.hide a1
      clear a1
      have BT : Hid (0 < c → Bts wr g len) := fun h => by
        have h1 : Bk wr g zs := by rw [HQ.out]; exact BK3.out h
        have h2 := h1.bts
        rw [HLEN.out] at h2
        exact h2
      clear HQ
      go_wp2
      refine HA.out _ _ ?_
      clear HA
      go_wp2
      go_loopw [11] (fun i wr => ∃ (x : Nat), x ≤ c ∧ i = .int .i64 x ∧ w3.grownBy wr (some g) ∧ (0 < c → Bts wr g len)) (fun i _ => c - (intOf i).toNat)
      case atStart => exact ⟨0, Nat.zero_le _, rfl, GR.out, BT.out⟩
      case round =>
        rename_i Q2 K2 a2
        obtain ⟨x, hx, rfl, hgr, hbt⟩ := hrel
        clear GR BT
        by_cases hxt : x < c
        · obtain ⟨gl, o, rfl, hl1, hl2, hl3⟩ := FL.out wr hgr x hxt
          rw [HLEN.out] at hl3
          have SPK := TW.hide (HSP.out wr g o x (by have := HL.out (by omega); rw [HLEN.out] at this; exact this) (hbt (by omega)) hl3)
          have hkI : (0 : Int) ≤ (x : Int) := Int.natCast_nonneg _
          have hkJ : (x : Int) < (c : Int) := by omega
          have GR := TW.hide hgr
          clear hl2 hl3 hgr hbt
          go_wp2_with fail
          refine SPK.out.mono ?_
          rintro e w4 ⟨⟨v4, rfl⟩, hg4, hb4⟩
          have G4 := TW.hide (grown_more GR.out hg4 (fun j hj => by cases hj; exact .inl rfl))
          have B4 := TW.hide hb4
          clear hg4 hb4
          go_wp2
          go_roundw
          case rel => exact ⟨x + 1, by omega, by go_num, G4.out, fun _ => B4.out⟩
          case measure => simp [intOf]; omega
        · have HA := TW.hide a2
          have GR := TW.hide hgr
          clear a2 hgr hbt
          go_wp2
          refine HA.out _ _ ?_
          clear HA
          have FX := TW.hide (FA.out _ GR.out)
          go_wp2_with fail
          refine (C2.out _ f cf FX.out.2).mono ?_
          rintro e w5 ⟨er2, at2, c2, v5, g2, qs2, hres2, rfl, hown5, hpv5, hg5, hbk5, hb5⟩
          obtain ⟨rfl, rfl, rfl⟩ := RES.out.one hres2
          obtain ⟨al2, cl2, rfl⟩ := own_f hown5
          have G5 := TW.hide (grown_over GR.out hb5)
          have FL2 : Hid (∀ W : World, W.heap = w5.heap → ∀ k, k < c → ∃ gl o, al2 = some ⟨gl, 0, none⟩ ∧ W.cell? ⟨gl, k, none⟩ = some (.slice (some ⟨g2, o, none⟩) (pn zs k) (pn zs k)) ∧ (0 < pn zs k → o = pos zs k + 8) ∧ o + pn zs k ≤ zs.length) := fun W hW k hk =>
            lfact hown5 hpv5 (hbk5 (by omega)) (fun b hb hne => by rw [hW]) hk
          have BK5 := TW.hide hbk5
          clear hown5 hpv5 hbk5 hb5 hres2 hg5
          go_wp2
          go_loopw [12] (fun i wr => ∃ (k q : Nat), k ≤ c ∧ i = .int .i64 k ∧ wr = w5.drewN q) (fun i _ => c - (intOf i).toNat)
          case atStart => exact ⟨0, 0, Nat.zero_le _, rfl, rfl⟩
          case round =>
            obtain ⟨k, q, hk, rfl, hwq⟩ := hrel
            have HQ := TW.hide hwq
            have GR6 : Hid (w3.grownBy wr (some g)) := by
              show World.grownBy _ _ _
              rw [hwq]
              exact ⟨G5.out.os, G5.out.tape, G5.out.output, G5.out.size, G5.out.block⟩
            clear hwq
            by_cases hlt : k < c
            · obtain ⟨gm, a', c', rfl, hm1, hm2⟩ := FM.out wr GR6.out k hlt
              obtain ⟨gl, o, rfl, hl1, hl2, hl3⟩ := FL2.out wr (by rw [HQ.out]; rfl) k hlt
              have hbk : Bk wr g2 zs := by rw [HQ.out]; exact BK5.out (by omega)
              have SMK := TW.hide (fun n => HS.out c k GD.out hlt (wr.drewN n) (some ⟨g2, o, none⟩) a' c' (lrow hbk hl2 hl3) hm2)
              have hkI : (0 : Int) ≤ (k : Int) := Int.natCast_nonneg _
              have hkJ : (k : Int) < (c : Int) := by omega
              clear hm2 hl2 hl3 hbk
              go_wp2
              go_quiet ((go_at_call 7; exact Calls.quiet_of (SMK.out _)))
              go_wp2
              go_roundw
              case rel => exact ⟨k + 1, q + nq, by omega, by go_num, by rw [HQ.out, World.drewN_drewN]⟩
              case measure => simp [intOf]; omega
            · have FY := TW.hide (FA.out wr GR6.out)
              go_wp2_with fail
              refine (C4.out wr f cf FY.out.2 FY.out.1).mono ?_
              rintro e w6 ⟨rfl, hb6⟩
              have B6 : Hid (Below w.heap.size w w6) := FY.out.1.trans (hb6.mono FY.out.1.size)
              clear hb6
              go_wp2
              go_ret
              exact ⟨rfl, B6.out⟩
theorem unrowsB (a : Option Addr) (cap : Nat) (zs : List Int) (w : World) (h : Bb w a cap zs) :
    Calls Try.prog 3 #[.slice a zs.length cap] w fun e w' => e = .returned (.bool true) ∧ Below w.heap.size w w' :=
  unrows a cap zs w h.byt h.row h.nil h.room h.most
end LW
end Go.Proofs.Ytkmokjnakglhbaa
