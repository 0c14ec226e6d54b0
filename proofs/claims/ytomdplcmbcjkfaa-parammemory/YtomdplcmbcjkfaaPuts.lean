/-
  What the calls Put (the program, the document) give.
-/
import Derived.Test.YtomdplcmbcjkfaaGets
import Derived.Test.YtomdplcmbcjkfaaLays
import Derived.Test.YtomdplcmbcjkfaaClone
namespace Go.Proofs.Ytomdplcmbcjkfaa
open Go.RowKit
set_option linter.unusedVariables false
namespace LW
open Words
theorem own_mono {w : World} {B B' n : Nat} {v : Value} {xs : List Value} (h : w.ownsRow B 5 1 v n xs) (hb : B' ≤ B) : w.ownsRow B' 5 1 v n xs :=
  ⟨h.1, h.2.imp id (fun ⟨g, cap, cur, e, hg, rest⟩ => ⟨g, cap, cur, e, Nat.le_trans hb hg, rest⟩)⟩
/-- Put's error. -/
def pE (kd f : Int) (n : Nat) (v : Int) : Int := if cf kd n f = 0 then (if v < 2 ^ (8 * fS kd f) then 0 else 1) else cf kd n f
/-- Put's bytes. -/
def pL (kd f : Int) (zs : List Int) (v : Int) : List Int := if pE kd f zs.length v = 0 then ly zs (fA kd f) (fS kd f) v else []
set_option maxRecDepth 20000 in
set_option maxHeartbeats 2000000 in
theorem put (kd f : Int) (a : Option Addr) (cap : Nat) (zs : List Int) (v : Int) (w : World) (hr : Row w a zs) (hn : a = none → cap = 0) (v0 : 0 ≤ v) (v1 : v < 18446744073709551616) :
    Calls Try.prog 9 #[.int .i64 kd, .slice a zs.length cap, .int .i64 f, .int .u64 v] w fun e w' =>
      ∃ x, e = .returned (.tuple #[x, .int .i64 (pE kd f zs.length v)]) ∧ w'.ownsRow w.heap.size 5 1 x (pL kd f zs v).length (vs (pL kd f zs v)) ∧ Below w.heap.size w w' := by
  have hcf := fun W => checkField kd a zs.length cap f W
  unfold pL
  by_cases hc : cf kd zs.length f = 0
  · obtain ⟨hk, hlen, h1, h9, _⟩ := cf_zero hc
    obtain ⟨eA, eS, s1, s8, hfit⟩ := fits kd f hk h1 h9
    have hm64 : mo kd ≤ 64 ∧ 32 ≤ mo kd := by rcases hk with rfl | rfl <;> decide
    have hw := fun W => whole f kd W h1 (by omega)
    rw [eA, eS] at hw
    have hh := fun W => holds (fA kd f) v (fS kd f) W (by omega) v0 v1
    have hcl := fun W (h : Row W a zs) => clone a cap zs W h hn (by omega)
    have hly := fun g cap' B W h hg hB hgl => lay g cap' zs (fA kd f) (fS kd f) v B W h hg hB hgl (by omega) s8 (by omega) v0 v1
    have hll := ly_length zs (fA kd f) (fS kd f) v (by omega)
    have hos := fun (W : World) (B : Nat) (x : Value) (h : W.ownsRow B 5 1 x zs.length (vs zs)) => own_some h (by omega)
    have hpe : pE kd f zs.length v = if v < 2 ^ (8 * fS kd f) then 0 else 1 := by simp [pE, hc]
    rw [hpe]
    rw [hc] at hcf
    clear hpe hc
    generalize ly zs (fA kd f) (fS kd f) v = L at *
    obtain ⟨y, hy⟩ : ∃ y, decide (v < 2 ^ (8 * fS kd f)) = y := ⟨_, rfl⟩
    rw [hy] at hh
    cases y
    · have hv := of_decide_eq_false hy
      rw [if_neg hv]
      generalize fA kd f = A at *
      generalize fS kd f = S at *
      have H := TW.hide hcf
      have HW := TW.hide hw
      have HH := TW.hide hh
      generalize zs.length = len at *
      clear hcf hw hh hr hlen hk eA eS hy hcl hly hll hos hfit hm64 hv
      go_enter Try.func9, Try.ntmps9
      go_wp2_with fail
      refine (H.out _).mono ?_
      rintro e w1 ⟨rfl, hb1⟩
      have B1 := TW.hide hb1
      clear hb1
      go_wp2_with fail
      refine (HW.out _).mono ?_
      rintro e w2 ⟨rfl, hb2⟩
      have B2 : Hid (Below w.heap.size w w2) := B1.out.trans (hb2.mono B1.out.size)
      clear hb2 B1
      go_wp2_with fail
      refine (HH.out _).mono ?_
      rintro e w3 ⟨rfl, hb3⟩
      have B3 : Hid (Below w.heap.size w w3) := (B2.out.alloc B2.out.size _).trans (hb3.mono (by have := B2.out.size; simp; omega))
      clear hb3 B2
      go_wp2_with fail
      go_ret2
      exact ⟨_, rfl, World.ownsRow_nil _ _ _ _, B3.out⟩
    · have hv := of_decide_eq_true hy
      rw [if_pos hv, if_pos rfl, hll]
      generalize fA kd f = A at *
      generalize fS kd f = S at *
      have H := TW.hide hcf
      have HW := TW.hide hw
      have HH := TW.hide hh
      have HC := TW.hide hcl
      have HY := TW.hide hly
      have HS := TW.hide hos
      have HR := TW.hide hr
      generalize zs.length = len at *
      clear hcf hw hh hr hlen hk eA eS hy hcl hly hll hos hfit hm64 hv
      go_enter Try.func9, Try.ntmps9
      go_wp2_with fail
      refine (H.out _).mono ?_
      rintro e w1 ⟨rfl, hb1⟩
      have B1 := TW.hide hb1
      clear hb1
      go_wp2_with fail
      refine (HW.out _).mono ?_
      rintro e w2 ⟨rfl, hb2⟩
      have B2 : Hid (Below w.heap.size w w2) := B1.out.trans (hb2.mono B1.out.size)
      clear hb2 B1
      go_wp2_with fail
      refine (HH.out _).mono ?_
      rintro e w3 ⟨rfl, hb3⟩
      have n3 := blk_keep (heap_alloc_new w2 _) hb3
      have B3 : Hid (Below w.heap.size w w3) := (B2.out.alloc B2.out.size _).trans (hb3.mono (by have := B2.out.size; simp; omega))
      have N3 := TW.hide n3
      clear hb3 B2 n3
      go_wp2_with fail
      refine (HC.out _ (HR.out.below B3.out)).mono ?_
      rintro e w4 ⟨x, rfl, hown, hb4⟩
      obtain ⟨g, cap', rfl, hg, hgl⟩ := HS.out _ _ _ hown
      have n4 := blk_keep N3.out hb4
      have c0 := blk_cell n4 (i := 0) (v := .int .i64 A) rfl
      have c1 := blk_cell n4 (i := 1) (v := .int .i64 S) rfl
      have hs4 := hb4.size
      have B4 : Hid (Below w.heap.size w w4) := B3.out.trans (hb4.mono B3.out.size)
      have HOW := TW.hide hown
      have hs3 := B3.out.size
      clear hown hb4 N3 n4 B3
      go_wp2_with fail
      refine (HY.out g cap' w3.heap.size _ HOW.out hg hs4 hgl).mono ?_
      rintro e w5 ⟨rfl, hown5, hb5⟩
      have HO5 := TW.hide (own_mono hown5 hs3)
      have B5 : Hid (Below w.heap.size w w5) := B4.out.trans (hb5.mono hs3)
      clear hown5 hb5 B4 HOW
      go_wp2_with fail
      go_ret2
      exact ⟨_, rfl, HO5.out, B5.out⟩
  · have hpe : pE kd f zs.length v = cf kd zs.length f := by simp [pE, hc]
    rw [hpe, if_neg hc]
    have hc' : (cf kd zs.length f != 0) = true := by simp [hc]
    clear hpe
    generalize cf kd zs.length f = c at *
    generalize zs.length = len at *
    have H := TW.hide hcf
    clear hcf hr
    go_enter Try.func9, Try.ntmps9
    go_wp2_with fail
    refine (H.out _).mono ?_
    rintro e w1 ⟨rfl, hb1⟩
    have B1 := TW.hide hb1
    clear hb1
    go_wp2_with fail
    go_ret2
    exact ⟨_, rfl, World.ownsRow_nil _ _ _ _, B1.out⟩
set_option maxRecDepth 20000 in
set_option maxHeartbeats 2000000 in
theorem rput (kd f : Int) (a : Option Addr) (cap : Nat) (zs : List Int) (v : Int) (w : World) (hz : Byt zs) (hr : Row w a zs) (hn : a = none → cap = 0) (v0 : 0 ≤ v) (v1 : v < 18446744073709551616) :
    Calls Try.prog 14 #[.int .i64 kd, .slice a zs.length cap, .int .i64 f, .int .u64 v] w fun e w' =>
      ∃ x, e = .returned (.tuple #[x, .int .i64 (pE kd f zs.length v)]) ∧ w'.ownsRow w.heap.size 5 1 x (pL kd f zs v).length (vs (pL kd f zs v)) ∧ Below w.heap.size w w' := by
  obtain ⟨i0, hi, hz0, hz1, hz2⟩ := info_parts info5
  have hcf := fun W (h : Row W a zs) => rget kd f a cap zs W hz h
  generalize gt kd f zs = G at *
  unfold pL
  by_cases hc : cf kd zs.length f = 0
  · obtain ⟨hk, hlen, h1, h9, _⟩ := cf_zero hc
    obtain ⟨eA, eS, s1, s8, hfit⟩ := fits kd f hk h1 h9
    have hm64 : mo kd ≤ 64 ∧ 32 ≤ mo kd := by rcases hk with rfl | rfl <;> decide
    have hw := fun W => place kd f W hk
    rw [if_neg (by omega), if_neg (by omega), eA, eS] at hw
    have hh := div_zero_iff v (8 * fS kd f) v0
    have hly := fun g cap' B W h hg => rlay g cap' zs (fA kd f) (fS kd f) v B W h hg (by omega) s8 (by omega) v0 v1
    have hll := ly_length zs (fA kd f) (fS kd f) v (by omega)
    have hos := fun (W : World) (B : Nat) (x : Value) (h : W.ownsRow B 5 1 x zs.length (vs zs)) => own_some h (by omega)
    have hpe : pE kd f zs.length v = if v < 2 ^ (8 * fS kd f) then 0 else 1 := by simp [pE, hc]
    have h8 : fS kd f = 8 → v < 2 ^ (8 * fS kd f) := by intro h; rw [h]; omega
    obtain ⟨ad, rfl⟩ : ∃ ad, a = some ad := by
      rcases hr with rfl | ⟨b, off, rfl, _⟩
      · simp at hlen; omega
      · exact ⟨_, rfl⟩
    have hcl := row_cells hr (Below.refl _ _)
    rw [hpe]
    rw [hc] at hcf
    clear hpe hc
    generalize ly zs (fA kd f) (fS kd f) v = L at *
    obtain ⟨y, hy⟩ : ∃ y, decide (v < 2 ^ (8 * fS kd f)) = y := ⟨_, rfl⟩
    cases y
    · have hv := of_decide_eq_false hy
      rw [if_neg hv]
      have hS8 : decide ((fS kd f : Int) < 8) = true := by simp; have := fun h => hv (h8 h); omega
      have hq : (v / 2 ^ (8 * fS kd f) != 0) = true := by simp; exact fun h => hv (hh.1 h)
      generalize fA kd f = A at *
      generalize fS kd f = S at *
      have hw8 : IntKind.u64.wrap (S : Int) = (S : Int) := by rw [IntKind.wrap_u64]; omega
      have H := TW.hide hcf
      have HW := TW.hide hw
      have HR := TW.hide hr
      generalize zs.length = len at *
      clear hcf hw hh hr hlen hk eA eS hy hcl hly hll hos hfit hm64 hv h8 hz
      go_enter Try.func14, Try.ntmps14
      go_wp2_with fail
      refine (H.out _ HR.out).mono ?_
      rintro e w1 ⟨rfl, rfl⟩
      go_wp2_with fail
      refine (HW.out _).mono ?_
      rintro e w1 ⟨rfl, rfl⟩
      go_wp2_with fail
      go_ret2
      exact ⟨_, rfl, World.ownsRow_nil _ _ _ _, Below.refl _ _⟩
    · have hv := of_decide_eq_true hy
      rw [if_pos hv, if_pos rfl, hll]
      have hq : (v / 2 ^ (8 * fS kd f) != 0) = false := by simp; exact hh.2 hv
      generalize fA kd f = A at *
      generalize fS kd f = S at *
      have hw8 : IntKind.u64.wrap (S : Int) = (S : Int) := by rw [IntKind.wrap_u64]; omega
      have hS8 : decide ((S : Int) < 8) = true ∨ decide ((S : Int) < 8) = false := by cases decide ((S : Int) < 8) <;> simp
      have H := TW.hide hcf
      have HW := TW.hide hw
      have HC := TW.hide hcl
      have HY := TW.hide hly
      have HS := TW.hide hos
      have HR := TW.hide hr
      have HO := TW.hide (oneCell_vs zs)
      have HL := TW.hide (vs_length zs)
      have hlm : zs.length ≤ 64 := by omega
      generalize zs.length = len at *
      clear hcf hw hh hr hlen hk eA eS hy hcl hly hll hos hfit hm64 hv h8 hz
      rcases hS8 with hS8 | hS8
      all_goals
        go_enter Try.func14, Try.ntmps14
        go_wp2_with fail
        refine (H.out _ HR.out).mono ?_
        rintro e w1 ⟨rfl, rfl⟩
        go_wp2_with fail
        refine (HW.out _).mono ?_
        rintro e w1 ⟨rfl, rfl⟩
        go_wp2_with (at_builtin; refine wpList_append_own _ rfl _ _ 24 rfl w.heap.size 5 i0 (.int .u8 0) 1 1 Try.underlying24 hi hz0 hz1 hz2 rfl (by decide) _ _ _ rfl (World.ownsRow_nil w w.heap.size 5 1) ad len cap (vs zs) rfl (by rw [Nat.mul_one]; exact HL.out) HC.out HO.out (by unfold maxLen; omega) (by omega) (by simp) ?_; intro v' w2 hown' hgrow' _; have H1 := TW.hide hown'; have H2 := TW.hide hgrow'; clear hown' hgrow')
        have h1 := H1.out
        rw [Nat.zero_add] at h1
        obtain ⟨g, cap', rfl, hg, hgl⟩ := HS.out _ _ _ h1
        have B2 : Hid (Below w.heap.size w w2) := (Below.refl _ _).grown H2.out (Nat.le_refl _) (own_block (World.ownsRow_nil w w.heap.size 5 1))
        have HOW := TW.hide h1
        clear h1 H1 H2
        refine (HY.out g cap' w.heap.size _ HOW.out hg).mono ?_
        rintro e w5 ⟨rfl, hown5, hb5⟩
        have HO5 := TW.hide hown5
        have B5 : Hid (Below w.heap.size w w5) := B2.out.trans hb5
        clear hown5 hb5 B2 HOW
        go_wp2_with fail
        go_ret2
        exact ⟨_, rfl, HO5.out, B5.out⟩
  · have hpe : pE kd f zs.length v = cf kd zs.length f := by simp [pE, hc]
    rw [hpe, if_neg hc]
    have hc' : (cf kd zs.length f != 0) = true := by simp [hc]
    clear hpe
    generalize cf kd zs.length f = c at *
    generalize zs.length = len at *
    have H := TW.hide hcf
    have HR := TW.hide hr
    clear hcf hr hz
    go_enter Try.func14, Try.ntmps14
    go_wp2_with fail
    refine (H.out _ HR.out).mono ?_
    rintro e w1 ⟨rfl, rfl⟩
    go_wp2_with fail
    go_ret2
    exact ⟨_, rfl, World.ownsRow_nil _ _ _ _, Below.refl _ _⟩
end LW
end Go.Proofs.Ytomdplcmbcjkfaa
