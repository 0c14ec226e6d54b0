/-
 The law on Edges.
-/
import Derived.Test.YtlahcdbgggdldaaJnAe
import Derived.Test.YtlahcdbgggdldaaEdAe
import Derived.Test.YtlahcdbgggdldaaTvCe
namespace Go.Proofs.Ytlahcdbgggdldaa
open Go.RowKit
set_option linter.unusedVariables false
set_option linter.unusedSimpArgs false
namespace LW
open Mc
theorem CI.set1 {W : World} {g cap N : Nat} {r : Nat → Eg2} (h : CI W g cap N r) (k : Nat) (x : Int) : CI (W.setCell ⟨g, k * 2, none⟩ (.int .i64 x)) g cap N (fun j => if j = k then (x, (r k).2) else r j) := by
 obtain ⟨f, h1, h2⟩ := h
 refine ⟨_, h1.set (k * 2) _, fun j hj => ?_⟩
 obtain ⟨a, b⟩ := h2 j hj
 by_cases e : j = k
 ·subst e
  dsimp only
  rw [if_pos rfl, if_pos rfl, if_neg (by omega)]
  exact ⟨rfl, b⟩
 ·dsimp only
  rw [if_neg (by omega), if_neg e, if_neg (by omega)]
  exact ⟨a, b⟩
theorem CI.other {W : World} {g g2 k cap N : Nat} {r : Nat → Eg2} {u : Value} (h : CI W g cap N r) (hne : g ≠ g2) : CI (W.setCell ⟨g2, k, none⟩ u) g cap N r := by
 refine h.keep ?_
 unfold World.setCell
 split <;> (dsimp only; rw [Array.getElem?_modify, if_neg (fun e => hne e.symm)])
set_option maxRecDepth 100000 in
set_option maxHeartbeats 40000000 in
theorem edgesW (s : Syst) (pa : Option Addr) (pc : Nat) (ra : Option Addr) (rc : Nat) (la : Option Addr) (lc : Nat) (l : List Ev) (w : World) (hs : SyI w s pa ra) (hl : EvI w la lc l) (hz : l.length ≤ 3518437208780) :
  Calls Try.prog 3 #[.agg (syC s pa pc ra rc), .slice la l.length lc] w fun e w' => e = .returned (.bool true) ∧ Below w.heap.size w w' := by
 unfold syC
 have HEl := TW.hide hl
 have HSl := TW.hide hs
 have HCo : Hid (∀ W, Below w.heap.size w W → Calls Try.prog 7 #[.slice la l.length lc] W fun e w' => ∃ a c, e = .returned (.slice a l.length c) ∧ EvI w' a c l ∧ Below W.heap.size W w') := fun W hW => lcopied la lc l W (hl.below hW) hz
 have HP1 : Hid (∀ a c W, Below w.heap.size w W → EvI W a c l → Calls Try.prog 8 #[.agg #[.slice pa s.progs.length pc, .slice ra s.rooms.length rc, .int .i64 s.groups, .int .i64 s.locks, .int .i64 s.cells], .slice a l.length c] W (EdU W s l)) := fun a c W hW he => ptedges s pa pc ra rc a c l W (hs.below hW) he
 have HP2 : Hid (∀ W, Below w.heap.size w W → Calls Try.prog 9 #[.agg #[.slice pa s.progs.length pc, .slice ra s.rooms.length rc, .int .i64 s.groups, .int .i64 s.locks, .int .i64 s.cells], .slice la l.length lc] W (EdU W s l)) := fun W hW => rtedges s pa pc ra rc la lc l W (hs.below hW) (hl.below hW)
 have HN4' := egC_len s l
 unfold EdU at HP1 HP2
 generalize egC s l = E at *
 generalize egE s l = ER_ at *
 obtain ⟨N, hN⟩ : ∃ N, E.length = N := ⟨_, rfl⟩
 have HNe := TW.hide hN
 rw [hN] at HN4'
 have HN4 : Hid (N ≤ 65536) := HN4'
 clear hs hl hz hN HN4'
 have kx : ∀ x : Int, (x != x) = false := fun x => by simp
 have hA : Below w.heap.size w (w.alloc (.cells #[.slice pa s.progs.length pc, .slice ra s.rooms.length rc, .int .i64 s.groups, .int .i64 s.locks, .int .i64 s.cells] 25)) := (Below.refl _ _).alloc (Nat.le_refl _) _
 have N1 : Hid ((w.alloc (.cells #[.slice pa s.progs.length pc, .slice ra s.rooms.length rc, .int .i64 s.groups, .int .i64 s.locks, .int .i64 s.cells] 25)).heap[w.heap.size]? = some (.cells #[.slice pa s.progs.length pc, .slice ra s.rooms.length rc, .int .i64 s.groups, .int .i64 s.locks, .int .i64 s.cells] 25 (0, 0))) := heap_alloc_new w _
 have NB := TW.hide hA
 clear hA
 go_enter Try.func3, Try.ntmps3
 refine wp_seq_k fun K hK => ?_
 have HK := TW.hide hK
 clear hK
 go_wp2
 refine HK.out _ _ ?_
 clear HK K
 generalize w.alloc _ = X at *
 refine wp_seq_k fun K1 hK1 => ?_
 have HK1 := TW.hide hK1
 clear hK1
 go_wp2_with fail
 refine (HCo.out X NB.out).mono ?_
 rintro e1 W1 ⟨ca, cc, rfl, hce, hb⟩
 have HE1 := TW.hide hce
 have NB1 : Hid (Below w.heap.size w W1) := NB.out.trans (hb.mono NB.out.size)
 have NS := TW.hide (blk_keep N1.out hb)
 clear hb NB N1 hce HCo
 go_wp2
 refine HK1.out _ _ ?_
 clear HK1
 refine wp_seq_k fun Kz hKz => ?_
 have HKz := TW.hide hKz
 clear hKz
 go_wp2
 go_loopw [6] (fun tv wr => ∃ t : Nat, t ≤ 2 ∧ tv = .int .i64 (t : Int) ∧ Hid (EvI wr ca cc l) ∧ Hid (wr.heap[w.heap.size]? = some (.cells #[.slice pa s.progs.length pc, .slice ra s.rooms.length rc, .int .i64 s.groups, .int .i64 s.locks, .int .i64 s.cells] 25 (0, 0))) ∧ Hid (Below w.heap.size w wr)) (fun tv wr => 2 - (intOf tv).toNat)
 case atStart => exact ⟨0, by omega, rfl, HE1, NS, NB1⟩
 case round =>
  clear HE1 NS NB1
  obtain ⟨t, ht, rfl, HE, NS, HB⟩ := hrel
  by_cases hlt : t < 2
  ·have qt1 : (t : Int) < 2 := by omega
   obtain ⟨wo, rfl⟩ : ∃ x, x = wr := ⟨_, rfl⟩
   refine wp_seq_k fun K1 hK1 => ?_
   have HK1 := TW.hide hK1
   clear hK1
   go_wp2
   refine HK1.out _ _ ?_
   clear HK1
   refine wp_seq_k fun Kt hKt => ?_
   have HKt := TW.hide hKt
   clear hKt
   refine wp_block ?_
   obtain ⟨s0, s1, s2, s3, s4⟩ := cellsY5 NS.out
   refine wp_seq_k fun K1 hK1 => ?_
   have HK1 := TW.hide hK1
   clear hK1
   go_wp2_with fail
   refine (HP1.out ca cc wo HB.out HE.out).mono ?_
   rintro e2 W2 ⟨va, rfl, hoa, hb⟩
   have HBo2 : Hid (Below wo.heap.size wo W2) := hb
   have NS2 := TW.hide (blk_keep NS.out hb)
   rw [HNe.out] at hoa
   have HOa := TW.hide hoa
   obtain ⟨haa, hac, rfl⟩ := own_openE hoa
   clear hb hoa s0 s1 s2 s3 s4
   go_wp2
   refine HK1.out _ _ ?_
   clear HK1
   obtain ⟨s0, s1, s2, s3, s4⟩ := cellsY5 NS2.out
   refine wp_seq_k fun K1 hK1 => ?_
   have HK1 := TW.hide hK1
   clear hK1
   go_wp2_with fail
   refine (HP2.out W2 (HB.out.trans (HBo2.out.mono HB.out.size))).mono ?_
   rintro e3 W3 ⟨vb, rfl, hob, hb⟩
   have HB2 : Hid (Below wo.heap.size wo W3) := HBo2.out.trans (hb.mono HBo2.out.size)
   have HOa3 := TW.hide (own_belowI HOa.out hb)
   rw [HNe.out] at hob
   have HOb := TW.hide hob
   obtain ⟨hba, hbc, rfl⟩ := own_openE hob
   obtain ⟨H2, hH2⟩ : ∃ H, W2.heap.size = H := ⟨_, rfl⟩
   have HAr : Hid (0 < N → ∃ ga, haa = some ⟨ga, 0, none⟩ ∧ wo.heap.size ≤ ga ∧ ga < H2 ∧ N ≤ hac ∧ CI W3 ga hac N (fun j => E.getD j (0, 0))) := fun h0 => by
    have h9 := HOa3.out
    rw [← HNe.out] at h9
    have h8 := HOa.out
    rw [← HNe.out] at h8
    obtain ⟨g, cap, e, q1, q2, _, q4⟩ := CI.of h9 (by rw [HNe.out]; exact h0)
    injection e with e1 _ e3
    subst e1 e3
    rw [HNe.out] at q2 q4
    exact ⟨g, rfl, q1, by rw [← hH2]; exact own_lt h8 g rfl, q2, q4⟩
   have HBr : Hid (0 < N → ∃ gb, hba = some ⟨gb, 0, none⟩ ∧ H2 ≤ gb ∧ N ≤ hbc ∧ CI W3 gb hbc N (fun j => E.getD j (0, 0))) := fun h0 => by
    have h9 := HOb.out
    rw [← HNe.out] at h9
    obtain ⟨g, cap, e, q1, q2, _, q4⟩ := CI.of h9 (by rw [HNe.out]; exact h0)
    injection e with e1 _ e3
    subst e1 e3
    rw [HNe.out] at q2 q4
    exact ⟨g, rfl, by rw [← hH2]; exact q1, q2, q4⟩
   clear hb hob s0 s1 s2 s3 s4 HOa HOa3 HOb HBo2 NS2 hH2
   go_wp2
   refine HK1.out _ _ ?_
   clear HK1
   refine wp_seq_k fun K1 hK1 => ?_
   have HK1 := TW.hide hK1
   clear hK1
   go_wp2
   refine HK1.out _ _ ?_
   clear HK1
   have HEc := HE
   have NSo := NS
   have HBo := HB
   clear HE NS HB
   go_wp2
   go_loopw [11] (fun iv wr => ∃ (i : Nat) (ra2 : Nat → Eg2), i ≤ N ∧ iv = .int .i64 (i : Int) ∧ Hid (∀ j, i ≤ j → ra2 j = E.getD j (0, 0)) ∧ Hid (0 < N → ∃ ga, haa = some ⟨ga, 0, none⟩ ∧ wo.heap.size ≤ ga ∧ ga < H2 ∧ N ≤ hac ∧ CI wr ga hac N ra2) ∧ Hid (0 < N → ∃ gb, hba = some ⟨gb, 0, none⟩ ∧ H2 ≤ gb ∧ N ≤ hbc ∧ CI wr gb hbc N (fun j => E.getD j (0, 0))) ∧ Hid (Below wo.heap.size wo wr)) (fun iv wr => N - (intOf iv).toNat)
   case atStart => exact ⟨0, fun j => E.getD j (0, 0), Nat.zero_le _, rfl, TW.hide (fun _ _ => rfl), HAr, HBr, HB2⟩
   case round =>
    clear HAr HBr HB2
    obtain ⟨i, ra2, hi, rfl, HRa, HAr, HBr, HB2⟩ := hrel
    by_cases hlt : i < N
    ·have qi1 : (i : Int) < (N : Int) := by omega
     have qi0 : (0 : Int) ≤ (i : Int) := by omega
     have hi41 : i + 1 ≤ 65536 := by have := HN4.out; omega
     have HIL := TW.hide hlt
     obtain ⟨ga, rfl, hga1, hga2, hqa, hca⟩ := HAr.out (by omega)
     obtain ⟨gb, rfl, hgb, hqb, hcb⟩ := HBr.out (by omega)
     obtain ⟨x1, x2⟩ := hca.get hqa i hlt
     obtain ⟨y1, y2⟩ := hcb.get hqb i hlt
     rw [HRa.out i (Nat.le_refl _)] at x1 x2
     obtain ⟨f0, hf0⟩ : ∃ f0, (E.getD i (0, 0)).1 = f0 := ⟨_, rfl⟩
     obtain ⟨t0, ht0⟩ : ∃ t0, (E.getD i (0, 0)).2 = t0 := ⟨_, rfl⟩
     rw [hf0] at x1 y1
     rw [ht0] at x2 y2
     have HGa1 : Hid (wo.heap.size ≤ ga) := hga1
     have HGa2 : Hid (ga < H2) := hga2
     have HGb : Hid (H2 ≤ gb) := hgb
     have HCa := TW.hide hca
     have HCb := TW.hide hcb
     have HAc : Hid (N ≤ hac) := hqa
     have HBc : Hid (N ≤ hbc) := hqb
     clear hf0 ht0 hca hcb HAr HBr hlt hi hga1 hga2 hgb hqa hqb
     obtain ⟨wc, rfl⟩ : ∃ x, x = wr := ⟨_, rfl⟩
     refine wp_seq_k fun K1 hK1 => ?_
     have HK1 := TW.hide hK1
     clear hK1
     go_wp2
     refine HK1.out _ _ ?_
     clear HK1
     refine wp_seq_k fun Kb hKb => ?_
     have HKb := TW.hide hKb
     clear hKb
     refine wp_block ?_
     refine wp_seq_k fun K8 hK8 => ?_
     have HK8 := TW.hide hK8
     clear hK8
     go_wp2
     go_quiet (fail)
     go_wp2
     refine HK8.out _ _ ?_
     clear HK8
     have hq : Below wc.heap.size wc (wc.drewN nq) := below_drewN (Below.refl _ _) _
     have HCa1 := TW.hide (HCa.out.below hq)
     have HCb1 := TW.hide (HCb.out.below hq)
     have HB3 : Hid (Below wo.heap.size wo (wc.drewN nq)) := HB2.out.trans (hq.mono HB2.out.size)
     have cz := keepC hq x1
     have fz := HCa1.out.frozen (i * 2)
     clear hq x1 x2 y1 y2 HCa HCb HB2
     generalize wc.drewN nq = wd at *
     have HAr9 : Hid (0 < N → ∃ ga', (some ⟨ga, 0, none⟩ : Option Addr) = some ⟨ga', 0, none⟩ ∧ wo.heap.size ≤ ga' ∧ ga' < H2 ∧ N ≤ hac ∧ CI (wd.setCell ⟨ga, i * 2, none⟩ (.int .i64 (-7))) ga' hac N (fun j => if j = i then (-7, (ra2 i).2) else ra2 j)) := fun _ => ⟨ga, rfl, HGa1.out, HGa2.out, HAc.out, HCa1.out.set1 i (-7)⟩
     have HBr9 : Hid (0 < N → ∃ gb', (some ⟨gb, 0, none⟩ : Option Addr) = some ⟨gb', 0, none⟩ ∧ H2 ≤ gb' ∧ N ≤ hbc ∧ CI (wd.setCell ⟨ga, i * 2, none⟩ (.int .i64 (-7))) gb' hbc N (fun j => E.getD j (0, 0))) := fun _ => ⟨gb, rfl, HGb.out, HBc.out, HCb1.out.other (by have := HGa2.out; have := HGb.out; omega)⟩
     have HB9 := TW.hide (HB3.out.setCell (p := ⟨ga, i * 2, none⟩) HGa1.out (.int .i64 (-7)))
     have HRa9 : Hid (∀ j, i + 1 ≤ j → (fun j => if j = i then (((-7 : Int), (ra2 i).2) : Eg2) else ra2 j) j = E.getD j (0, 0)) := fun j hj => by
      dsimp only
      rw [if_neg (by omega)]
      exact HRa.out j (by omega)
     clear HCa1 HCb1 HB3 HRa
     generalize (fun j => if j = i then (((-7 : Int), (ra2 i).2) : Eg2) else ra2 j) = ra9 at *
     go_wp2
     refine HKb.out _ _ ?_
     clear cz fz
     go_wp2
     go_roundw
     case rel => exact ⟨i + 1, ra9, HIL.out, by go_num, HRa9, HAr9, HBr9, HB9⟩
     case measure => simp [intOf]; have := HIL.out; omega
    ·obtain rfl : N = i := by omega
     have qk : ¬ (N : Int) < (N : Int) := by omega
     have hX : Below wo.heap.size wo wr := HB2.out
     have HEn := TW.hide (HEc.out.below hX)
     have NSn := TW.hide (blk_keep NSo.out hX)
     have HBn : Hid (Below w.heap.size w wr) := HBo.out.trans (hX.mono HBo.out.size)
     clear hlt hi HAr HBr HB2 hX HRa
     go_wp2
     refine HKt.out _ _ ?_
     go_wp2
     go_roundw
     case rel => exact ⟨t + 1, by omega, by go_num, HEn, NSn, HBn⟩
     case measure => simp [intOf]; omega
  ·obtain rfl : t = 2 := by omega
   have qt : ¬ ((2 : Nat) : Int) < 2 := by omega
   have HKp : Hid (Calls Try.prog 10 #[.slice ca l.length cc, .slice la l.length lc] wr fun e w' => e = .returned (.bool true) ∧ Below wr.heap.size wr w') := lkept ca la cc lc l wr HE.out (HEl.out.below HB.out)
   clear hlt ht
   go_wp2
   refine HKz.out _ _ ?_
   clear HKz
   go_wp2_with fail
   refine HKp.out.mono ?_
   rintro e9 W9 ⟨rfl, hb⟩
   have HBz : Hid (Below w.heap.size w W9) := HB.out.trans (hb.mono HB.out.size)
   clear hb
   go_wp2
   go_ret
   exact ⟨rfl, HBz.out⟩
end LW
end Go.Proofs.Ytlahcdbgggdldaa
