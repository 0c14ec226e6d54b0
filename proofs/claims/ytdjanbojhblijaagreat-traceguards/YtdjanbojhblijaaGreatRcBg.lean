/-
 The law TraceGuards.
-/
import Derived.Test.YtdjanbojhblijaaGreatRcAg
import Derived.Test.YtdjanbojhblijaaGreatAlg
namespace Go.Proofs.YtdjanbojhblijaaGreat
open Go.RowKit
set_option linter.unusedVariables false
set_option linter.unusedSimpArgs false
namespace LW
open Mc
theorem addr0 (g m : Nat) : (⟨g, 0, none⟩ : Addr).add m = ⟨g, m, none⟩ := by unfold Addr.add; split <;> simp_all
set_option maxRecDepth 100000 in
set_option maxHeartbeats 40000000 in
theorem guardsL (s : Syst) (pa : Option Addr) (pc : Nat) (ra : Option Addr) (rc : Nat) (la : Option Addr) (lc : Nat) (l : List Ev) (cell : Int) (w : World) (hs : SyI w s pa ra) (hl : EvI w la lc l) {P Q : Prop} (hz : P) (hi : Q) :
  Calls Tryz.prog 3 #[.agg #[.slice pa s.progs.length pc, .slice ra s.rooms.length rc, .int .i64 s.groups, .int .i64 s.locks, .int .i64 s.cells], .slice la l.length lc, .int .i64 cell] w fun e w' => e = .returned (.bool true) ∧ Below w.heap.size w w' := by
 clear hz hi
 obtain ⟨E1, hE1⟩ : ∃ E, (if (Tr.vR s l).2.2 = 0 then (if 0 ≤ (4096 : Int) ∧ (4096 : Int) ≤ 4096 then 0 else 1) else (Tr.vR s l).2.2) = E := ⟨_, rfl⟩
 have HRa : Hid (∀ W, Below w.heap.size w W → Calls Tryz.prog 5 #[.agg #[.slice pa s.progs.length pc, .slice ra s.rooms.length rc, .int .i64 s.groups, .int .i64 s.locks, .int .i64 s.cells], .slice la l.length lc, .int .i64 4096] W (fun e w' => ∃ v es, e = .returned (.tuple #[v, .int .i64 E1]) ∧ w'.ownsRow W.heap.size 33 2 v es.length (edC es) ∧ (∀ x ∈ es, RcP s l x) ∧ (E1 ≠ 0 → es = []) ∧ Below W.heap.size W w')) := fun W hW => by
  have h := ptraces s pa pc ra rc la lc l 4096 W (hs.below hW) (hl.below hW) (by unfold i64; omega)
  rw [hE1] at h
  exact h
 have HEv : Hid (∀ W, Below w.heap.size w W → EvI W la lc l) := fun W hW => hl.below hW
 obtain ⟨gE, hgE⟩ : ∃ E, gdE s l cell = E := ⟨_, rfl⟩
 obtain ⟨gA, hgA⟩ : ∃ E, gdA s l cell = E := ⟨_, rfl⟩
 have HGu : Hid (∀ W, Below w.heap.size w W → Calls Tryz.prog 6 #[.agg #[.slice pa s.progs.length pc, .slice ra s.rooms.length rc, .int .i64 s.groups, .int .i64 s.locks, .int .i64 s.cells], .slice la l.length lc, .int .i64 cell] W (fun e w' => ∃ a c, e = .returned (.tuple #[.slice a gA.length c, .int .i64 gE]) ∧ Below W.heap.size W w')) := fun W hW => by
  refine (ptguards s pa pc ra rc la lc l cell W (hs.below hW) (hl.below hW)).mono ?_
  rintro e w' ⟨a, c, h1, _, h2⟩
  rw [hgE, hgA] at h1
  exact ⟨a, c, h1, h2⟩
 have HGA : Hid (gE = 0 → gA ≠ [] → ∃ x, x ∈ guL s.locks.toNat l cell l.length) := fun h0 h1 => by
  rw [← hgA] at h1
  unfold gdA at h1
  rw [hgE, if_pos h0] at h1
  split at h1
  ·exact List.exists_mem_of_ne_nil _ h1
  ·exact absurd rfl h1
 clear hgE hgA
 have hA : Below w.heap.size w (w.alloc (.cells #[.slice pa s.progs.length pc, .slice ra s.rooms.length rc, .int .i64 s.groups, .int .i64 s.locks, .int .i64 s.cells] 25)) := (Below.refl _ _).alloc (Nat.le_refl _) _
 have N1 : Hid ((w.alloc (.cells #[.slice pa s.progs.length pc, .slice ra s.rooms.length rc, .int .i64 s.groups, .int .i64 s.locks, .int .i64 s.cells] 25)).heap[w.heap.size]? = some (.cells #[.slice pa s.progs.length pc, .slice ra s.rooms.length rc, .int .i64 s.groups, .int .i64 s.locks, .int .i64 s.cells] 25 (0, 0))) := heap_alloc_new w _
 have NB := TW.hide hA
 clear hA
 go_enter Tryz.func3, Tryz.ntmps3
 refine wp_seq_k fun K hK => ?_
 have HK := TW.hide hK
 clear hK
 go_wp2
 refine HK.out _ _ ?_
 clear HK K
 generalize w.alloc _ = X at *
 obtain ⟨s0, s1, s2, s3, s4⟩ := cellsY5 N1.out
 refine wp_seq_k fun Kb hKb => ?_
 have HKb := TW.hide hKb
 clear hKb
 go_wp2_with fail
 refine (lalive X).mono ?_
 rintro e1 W1 ⟨rfl, hb⟩
 have NB1 : Hid (Below w.heap.size w W1) := NB.out.trans (hb.mono NB.out.size)
 have N11 := TW.hide (blk_keep N1.out hb)
 clear hb NB N1 s0 s1 s2 s3 s4
 obtain ⟨s0, s1, s2, s3, s4⟩ := cellsY5 N11.out
 go_wp2
 refine HKb.out _ _ ?_
 clear HKb
 refine wp_seq_k fun Kc hKc => ?_
 have HKc := TW.hide hKc
 clear hKc
 go_wp2_with fail
 refine (HRa.out W1 NB1.out).mono ?_
 rintro e2 W2 ⟨v, es, rfl, ho, hx, h0, hb⟩
 obtain ⟨va, vc, e3⟩ := own_openE ho
 subst e3
 have HO := TW.hide ho
 have HX := TW.hide hx
 have H0 := TW.hide h0
 have NB2 : Hid (Below w.heap.size w W2) := NB1.out.trans (hb.mono NB1.out.size)
 have N12 := TW.hide (blk_keep N11.out hb)
 clear ho hx h0 hb N11 s0 s1 s2 s3 s4
 go_wp2
 refine HKc.out _ _ ?_
 clear HKc
 by_cases hE : E1 = 0
 ·subst hE
  have HVr : Hid ((Tr.vR s l).2.2 = 0) := by
   show _ = _
   by_cases h : (Tr.vR s l).2.2 = 0
   ·exact h
   ·rw [if_neg h] at hE1; exact absurd hE1 h
  have HLn : Hid (l.length ≤ 40000 ∧ Tr.Gd s l l.length) := by
   have h2 := Tr.vR_ok (s := s) (l := l) HVr.out
   exact ⟨h2.2.1, h2.2.2.1⟩
  clear hE1 H0
  have hes : es.length ≤ 9223372036854775807 := by
   rcases HO.out.2 with ⟨_, h0⟩ | ⟨g, cap, cur, e, hg, hh, hn, hm, hc, ht⟩
   ·omega
   ·unfold maxLen at hm; omega
  have HRw : Hid (∀ W, Below W2.heap.size W2 W → ∀ m, m < es.length → ∃ ge, va = some ⟨ge, 0, none⟩ ∧ W.cell? ⟨ge, m * 2, none⟩ = some (.int .i64 (es.getD m (0, 0)).1) ∧ W.cell? ⟨ge, m * 2 + 1, none⟩ = some (.int .i64 (es.getD m (0, 0)).2)) := fun W hW m hm => by
   rcases HO.out.2 with ⟨_, h0⟩ | ⟨ge, cap, cur, e, _⟩
   ·omega
   ·injection e with e1 _ _
    subst e1
    obtain ⟨q1, q2⟩ := edC_at es m hm
    have h8 := HO.out.cells (g := ge) rfl (m * 2) _ q1
    have h9 := HO.out.cells (g := ge) rfl (m * 2 + 1) _ q2
    rw [addr0] at h8 h9
    exact ⟨ge, rfl, keepC hW h8, keepC hW h9⟩
  refine wp_seq_k fun Kd hKd => ?_
  have HKd := TW.hide hKd
  clear hKd
  go_wp2
  refine HKd.out _ _ ?_
  clear HKd
  refine wp_seq_k fun Ke hKe => ?_
  have HKe := TW.hide hKe
  clear hKe
  go_wp2
  go_loopw [9] (fun iv wr => ∃ k : Nat, k ≤ es.length ∧ iv = .int .i64 (k : Int) ∧ Hid (Below W2.heap.size W2 wr)) (fun iv wr => es.length - (intOf iv).toNat)
  case atStart => exact ⟨0, Nat.zero_le _, rfl, TW.hide (Below.refl _ _)⟩
  case round =>
   obtain ⟨k, hk, rfl, HB⟩ := hrel
   by_cases hlt : k < es.length
   ·have HLt : Hid (k < es.length) := hlt
    have q1 : (k : Int) < (es.length : Int) := by omega
    have q0 : (0 : Int) ≤ (k : Int) := by omega
    obtain ⟨i, j, e0, h1, h2, h3, h4, h5⟩ := rcp_who (HX.out (es.getD k (0, 0)) (by rw [List.getD_eq_getElem?_getD, List.getElem?_eq_getElem hlt]; exact List.getElem_mem hlt))
    obtain ⟨gv, eg, z0, z1⟩ := HRw.out wr HB.out k hlt
    subst eg
    rw [e0] at z0 z1
    have hBw : Below w.heap.size w wr := NB2.out.trans (HB.out.mono NB2.out.size)
    have HBw := TW.hide hBw
    obtain ⟨b, off, w1, o1, x1, v1, s1, el, f1, _, _, _, _, c0, c1, c2, _, _⟩ := (HEv.out wr hBw).get i (by omega)
    subst el
    obtain ⟨b', off', w2, o2, x2, v2, s2, el, f2, _, _, _, _, d0, d1, d2, _, _⟩ := (HEv.out wr hBw).get j h2
    cases el
    rw [f1, f2] at h3 h4 h5
    have h3 : x1 = x2 := h3
    have h4 : w1 ≠ w2 := h4
    have h5 : o1 = 13 ∨ o2 = 13 := h5
    subst h3
    obtain ⟨ln, hln⟩ : ∃ n, l.length = n := ⟨_, rfl⟩
    rw [hln] at h2 ⊢
    have n1 : decide ((i : Int) < 0) = false := decide_eq_false (by omega)
    have n2 : decide ((j : Int) ≤ (i : Int)) = false := decide_eq_false (by omega)
    have n3 : decide ((ln : Int) ≤ (j : Int)) = false := decide_eq_false (by omega)
    have m2 : decide (j ≤ i) = false := decide_eq_false (by omega)
    have m3 : decide (ln ≤ j) = false := decide_eq_false (by omega)
    have n4 : (0 : Int) ≤ (i : Int) := by omega
    have n5 : (0 : Int) ≤ (j : Int) := by omega
    have n6 : (i : Int) < (ln : Int) := by omega
    have n7 : (j : Int) < (ln : Int) := by omega
    have kw : (w1 == w2) = false := by simp [h4]
    have kx : (x1 != x1) = false := by simp
    clear e0 h1 h2 h4 f1 f2 hBw hlt hk
    refine wp_seq_k fun K1 hK1 => ?_
    have HK1 := TW.hide hK1
    clear hK1
    go_wp2
    refine HK1.out _ _ ?_
    clear HK1
    refine wp_seq_k fun Kr hKr => ?_
    have HKr := TW.hide hKr
    clear hKr
    refine wp_block ?_
    refine wp_seq_k fun K2 hK2 => ?_
    have HK2 := TW.hide hK2
    clear hK2
    go_wp2
    go_quiet (fail)
    go_wp2
    refine HK2.out _ _ ?_
    clear HK2
    have hq : Below wr.heap.size wr (wr.drewN nq) := below_drewN (Below.refl _ _) _
    have HBk : Hid (Below W2.heap.size W2 (wr.drewN nq)) := HB.out.trans (hq.mono HB.out.size)
    replace c0 := keepC hq c0
    replace c1 := keepC hq c1
    replace c2 := keepC hq c2
    replace d0 := keepC hq d0
    replace d1 := keepC hq d1
    replace d2 := keepC hq d2
    clear hq z0 z1 HB HBw
    generalize wr.drewN nq = wk at *
    refine wp_seq_k fun K3 hK3 => ?_
    have HK3 := TW.hide hK3
    clear hK3
    by_cases hop : o1 = 13
    ·have ko : (o1 != 13) = false := by simp [hop]
     clear h5
     clear hop
     go_wp2
     go_quiet (fail)
     go_wp2
     refine HK3.out _ _ ?_
     clear HK3
     have hq : Below wk.heap.size wk (wk.drewN nq) := below_drewN (Below.refl _ _) _
     have HBn : Hid (Below W2.heap.size W2 (wk.drewN nq)) := HBk.out.trans (hq.mono HBk.out.size)
     clear hq c0 c1 c2 d0 d1 d2 n1 n2 n3 n4 n5 n6 n7 m2 m3 kw kx
     generalize wk.drewN nq = wn at *
     go_wp2
     refine HKr.out _ _ ?_
     go_wp2
     go_roundw
     case rel => exact ⟨k + 1, HLt.out, by go_num, HBn⟩
     case measure => simp [intOf]; have := HLt.out; omega
    ·have ko : (o1 != 13) = true := by simp [hop]
     have ko2 : (o2 != 13) = false := by rcases h5 with h | h; exact absurd h hop; simp [h]
     clear h5
     clear hop
     go_wp2
     go_quiet (fail)
     go_wp2
     refine HK3.out _ _ ?_
     clear HK3
     have hq : Below wk.heap.size wk (wk.drewN nq) := below_drewN (Below.refl _ _) _
     have HBn : Hid (Below W2.heap.size W2 (wk.drewN nq)) := HBk.out.trans (hq.mono HBk.out.size)
     clear hq c0 c1 c2 d0 d1 d2 n1 n2 n3 n4 n5 n6 n7 m2 m3 kw kx
     generalize wk.drewN nq = wn at *
     go_wp2
     refine HKr.out _ _ ?_
     go_wp2
     go_roundw
     case rel => exact ⟨k + 1, HLt.out, by go_num, HBn⟩
     case measure => simp [intOf]; have := HLt.out; omega
   ·obtain rfl : k = es.length := by omega
    have q1 : ¬ (es.length : Int) < (es.length : Int) := by omega
    have HBw : Hid (Below w.heap.size w wr) := NB2.out.trans (HB.out.mono NB2.out.size)
    have HBz : Hid (Below W2.heap.size W2 wr) := HB.out
    clear hlt hk
    go_wp2
    refine HKe.out _ _ ?_
    clear q1 HB
    have N13 := TW.hide (blk_keep N12.out HBz.out)
    obtain ⟨s0, s1, s2, s3, s4⟩ := cellsY5 N13.out
    refine wp_seq_k fun Kf hKf => ?_
    have HKf := TW.hide hKf
    clear hKf
    go_wp2_with fail
    refine (HGu.out wr HBw.out).mono ?_
    rintro e3 W3 ⟨ga, gc, rfl, hb⟩
    have NB3 : Hid (Below w.heap.size w W3) := HBw.out.trans (hb.mono HBw.out.size)
    have HB3 : Hid (Below W2.heap.size W2 W3) := HBz.out.trans (hb.mono HBz.out.size)
    clear hb HBw HBz N13 s0 s1 s2 s3 s4
    go_wp2
    refine HKf.out _ _ ?_
    clear HKf
    by_cases hgE : gE = 0
    ·subst hgE
     by_cases hgA : gA = []
     ·subst hgA
      go_wp2
      go_ret
      exact ⟨rfl, NB3.out⟩
     ·have kl : ((gA.length : Int) == 0) = false := by simp [hgA]
      obtain ⟨x, hx⟩ := HGA.out rfl hgA
      have HXx := TW.hide hx
      clear hx hgA
      refine wp_seq_k fun Kg hKg => ?_
      have HKg := TW.hide hKg
      clear hKg
      go_wp2
      refine HKg.out _ _ ?_
      clear HKg
      clear kl
      refine wp_seq_k fun Kh hKh => ?_
      have HKh := TW.hide hKh
      clear hKh
      go_wp2
      go_loopw [14] (fun iv wk => ∃ k : Nat, k ≤ es.length ∧ iv = .int .i64 (k : Int) ∧ Hid (Below W2.heap.size W2 wk)) (fun iv wk => es.length - (intOf iv).toNat)
      case atStart => exact ⟨0, Nat.zero_le _, rfl, HB3⟩
      case round =>
       clear HB3
       obtain ⟨k, hk, rfl, HB⟩ := hrel
       obtain ⟨wk, rfl⟩ : ∃ y, y = wr := ⟨_, rfl⟩
       by_cases hlt : k < es.length
       ·have HLt : Hid (k < es.length) := hlt
        have q1 : (k : Int) < (es.length : Int) := by omega
        have q0 : (0 : Int) ≤ (k : Int) := by omega
        have hrc := HX.out (es.getD k (0, 0)) (by rw [List.getD_eq_getElem?_getD, List.getElem?_eq_getElem hlt]; exact List.getElem_mem hlt)
        obtain ⟨i, j, e0, h1, h2, _, _, _⟩ := rcp_who hrc
        have hno := gu_none HLn.out.2 HXx.out hrc
        obtain ⟨gv, eg, z0, z1⟩ := HRw.out wk HB.out k hlt
        subst eg
        rw [e0] at z0 hno
        have hBw : Below w.heap.size w wk := NB2.out.trans (HB.out.mono NB2.out.size)
        obtain ⟨b, off, w1, o1, x1, v1, s1, el, f1, _, _, _, _, c0, c1, c2, _, _⟩ := (HEv.out wk hBw).get i (by omega)
        subst el
        have hno : (Tr.ev l (i : Int).toNat).a ≠ cell := hno
        rw [Int.toNat_natCast, f1] at hno
        have hno : x1 ≠ cell := hno
        obtain ⟨ln, hln⟩ : ∃ n, l.length = n := ⟨_, rfl⟩
        rw [hln] at h2 ⊢
        have n4 : (0 : Int) ≤ (i : Int) := by omega
        have n6 : (i : Int) < (ln : Int) := by omega
        have kx : (x1 == cell) = false := by simp [hno]
        clear e0 h1 h2 f1 hBw hlt hk hno hrc c0 c1 z1
        refine wp_seq_k fun K1 hK1 => ?_
        have HK1 := TW.hide hK1
        clear hK1
        go_wp2
        refine HK1.out _ _ ?_
        clear HK1
        refine wp_seq_k fun Kr hKr => ?_
        have HKr := TW.hide hKr
        clear hKr
        refine wp_block ?_
        refine wp_seq_k fun K2 hK2 => ?_
        have HK2 := TW.hide hK2
        clear hK2
        go_wp2
        refine HK2.out _ _ ?_
        clear HK2
        go_wp2
        refine HKr.out _ _ ?_
        go_wp2
        go_roundw
        case rel => exact ⟨k + 1, HLt.out, by go_num, HB⟩
        case measure => simp [intOf]; have := HLt.out; omega
       ·obtain rfl : k = es.length := by omega
        have HBw : Hid (Below w.heap.size w wk) := NB2.out.trans (HB.out.mono NB2.out.size)
        clear hlt hk
        go_wp2
        refine HKh.out _ _ ?_
        go_wp2
        go_ret
        exact ⟨rfl, HBw.out⟩
    ·have kE : (gE != 0) = true := by simp [hgE]
     go_wp2
     go_ret
     exact ⟨rfl, NB3.out⟩
 ·obtain rfl : es = [] := H0.out hE
  have kE : (E1 != 0) = true := by simp [hE]
  go_wp2
  go_ret
  exact ⟨rfl, NB2.out⟩
end LW
end Go.Proofs.YtdjanbojhblijaaGreat
