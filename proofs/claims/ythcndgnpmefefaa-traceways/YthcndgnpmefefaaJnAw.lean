/-
  Jn, Ed in one.
-/
import Derived.Test.YthcndgnpmefefaaEdAw
import Derived.Test.YthcndgnpmefefaaLkAw
import Derived.Test.YthcndgnpmefefaaCk7w
import Derived.Test.YthcndgnpmefefaaCkCw
import Derived.Laws.AppendOwnNone
namespace Go.Proofs.Ythcndgnpmefefaa
open List renaming setIfInBounds_toArray → lpA, set_cons_zero → lpZ, set_cons_succ → lpS, getElem_toArray → lgT, getElem_cons_zero → lgZ, getElem_cons_succ → lgS
open Go.RowKit
set_option linter.unusedVariables false
set_option linter.unusedSimpArgs false
namespace LW
open Mc
theorem jnA_succ (l : List Ev) (k : Nat) : jnA l (k + 1) = jnA l k ++ jnE l k := rfl
theorem own_keepT {W W1 : World} {B n s p : Nat} {t t' : TypeId} {v : Value} {xs : List Value} {cs : Array Value} {fr : Nat × Nat} (hp : W.heap[p]? = some (.cells cs t' fr)) (ho : W.ownsRow B t s v n xs) (hne : t ≠ t') (hg : W.grownBy W1 v.ownBlock) : W1.heap[p]? = some (.cells cs t' fr) := by
 rw [hg.block p (blk_lt hp) (fun e => own_neB ho hp hne e.symm)]
 exact hp
set_option maxRecDepth 100000 in
set_option maxHeartbeats 40000000 in
theorem pjoins (s : Syst) (pa : Option Addr) (pc : Nat) (ra : Option Addr) (rc : Nat) (la : Option Addr) (lc : Nat) (l : List Ev) (w : World) (hl : EvI w la lc l) (ho : Ok s) (hg : Tr.Gd s l l.length) (hL : l.length ≤ 40000) :
  Calls Try.prog 37 #[.agg #[.slice pa s.progs.length pc, .slice ra s.rooms.length rc, .int .i64 s.groups, .int .i64 s.locks, .int .i64 s.cells, .slice la l.length lc, .int .i64 (Tr.rnC l : Int)], .int .i64 65537] w fun e w' => ∃ v, e = .returned v ∧ w'.ownsRow w.heap.size 35 2 v ((jnA l l.length).take 65537).length (edC ((jnA l l.length).take 65537)) ∧ Below w.heap.size w w' := by
 obtain ⟨POST, hP⟩ : ∃ Q : Ending → World → Prop, Q = fun e w' => ∃ v, e = .returned v ∧ w'.ownsRow w.heap.size 35 2 v ((jnA l l.length).take 65537).length (edC ((jnA l l.length).take 65537)) ∧ Below w.heap.size w w' := ⟨_, rfl⟩
 have HPo : Hid (∀ W v, W.ownsRow w.heap.size 35 2 v ((jnA l l.length).take 65537).length (edC ((jnA l l.length).take 65537)) → Below w.heap.size w W → POST (.returned v) W) := fun W v h1 h2 => by
  rw [hP]
  exact ⟨v, rfl, h1, h2⟩
 rw [← hP]
 clear hP
 have HGd := TW.hide hg
 obtain ⟨G, hG⟩ : ∃ G : Nat, s.groups = (G : Int) := ⟨s.groups.toNat, by have := ho.g1; omega⟩
 have hG64 : G ≤ 64 := by have := ho.g1; omega
 have HGs := TW.hide hG
 have HLn := TW.hide hL
 have HEw := TW.hide hl
 clear hl ho hg hL hG
 obtain ⟨i3, hi3, hz30, hz31, hz32⟩ := info_parts' intinfo
 obtain ⟨i4, hi4, hz40, hz41, hz42⟩ := info_parts' slcinfo6
 obtain ⟨ie, hie, hze0, hze1, hze2⟩ := info_parts' edinfo
 have hA : Below w.heap.size w (w.alloc (.cells #[.slice pa s.progs.length pc, .slice ra s.rooms.length rc, .int .i64 s.groups, .int .i64 s.locks, .int .i64 s.cells, .slice la l.length lc, .int .i64 (Tr.rnC l : Int)] 57)) := (Below.refl _ _).alloc (Nat.le_refl _) _
 have N1 : Hid ((w.alloc (.cells #[.slice pa s.progs.length pc, .slice ra s.rooms.length rc, .int .i64 s.groups, .int .i64 s.locks, .int .i64 s.cells, .slice la l.length lc, .int .i64 (Tr.rnC l : Int)] 57)).heap[w.heap.size]? = some (.cells #[.slice pa s.progs.length pc, .slice ra s.rooms.length rc, .int .i64 s.groups, .int .i64 s.locks, .int .i64 s.cells, .slice la l.length lc, .int .i64 (Tr.rnC l : Int)] 57 (0, 0))) := heap_alloc_new w _
 have NB := TW.hide hA
 clear hA
 go_enter Try.func37, Try.ntmps37
 refine wp_seq_k fun K hK => ?_
 have HK := TW.hide hK
 clear hK
 go_wp2
 refine HK.out _ _ ?_
 clear HK K
 generalize w.alloc _ = X at *
 obtain ⟨q0, q1, q2, q3, q4, q5, q6⟩ := cellsY7 N1.out
 rw [HGs.out] at q2
 obtain ⟨o, rfl⟩ : ∃ o, o = X := ⟨_, rfl⟩
 refine wp_seq_k fun K1 hK1 => ?_
 have HK1 := TW.hide hK1
 clear hK1
 go_wp2
 refine HK1.out _ _ ?_
 clear HK1
 refine wp_seq_k fun K1 hK1 => ?_
 have HK1 := TW.hide hK1
 clear hK1
 go_wp2_with (at_make; refine wpList_make_full _ rfl _ _ 38 rfl o.heap.size 23 i4 (.slice none 0 0) 1 Try.underlying38 hi4 hz40 hz41 _ _ _ _ G rfl rfl rfl rfl (by rw [hz42]; omega) (by unfold maxLen; omega) (Nat.le_refl _) ?_; (intro w2 hown hgrow); (rw [made_rep _ rfl] at hown); have HO2 := TW.hide hown; have HG2 := TW.hide hgrow; clear hown hgrow)
 refine HK1.out _ _ ?_
 clear HK1
 have HB2 : Hid (Below o.heap.size o w2) := (Below.refl _ _).grown HG2.out (Nat.le_refl _) (by intro k h; cases h)
 have HM2 := TW.hide (JM.start (B := o.heap.size) (Nat.le_refl _) HB2.out HO2.out)
 have NA := TW.hide (blk_keep N1.out HB2.out)
 have HXs : Hid (w.heap.size ≤ o.heap.size) := NB.out.size
 clear HG2 HO2 q0 q1 q2 q3 q4 q5 q6 N1
 obtain ⟨q0, q1, q2, q3, q4, q5, q6⟩ := cellsY7 NA.out
 have HM3 : Hid (JM w2 o.heap.size G (.slice (some ⟨o.heap.size, 0, none⟩) G G) (fun _ => Value.slice none 0 0) (fun _ => Value.slice none 0 0) (fun (c : Nat) => adA l (c : Int) 0) (.slice none 0 0) ((jnA l 0).take 65537)) := by
  have e : ((jnA l 0).take 65537) = [] := by simp [jnA, catE]
  show JM _ _ _ _ _ _ _ _ _
  rw [e]
  exact HM2.out.cong (fun j => rfl)
 clear HM2
 refine wp_seq_k fun Kl hKl => ?_
 have HKl := TW.hide hKl
 clear hKl
 go_wp2
 clear q0 q1 q2 q3 q4 q5 q6 NA
 go_loopw [5, 19] (fun lv iv wr => ∃ (k : Nat) (vs : Nat → Value) (la2 : Option Addr) (lc2 N : Nat), k ≤ l.length ∧ iv = .int .i64 (k : Int) ∧ lv = .slice la2 N lc2 ∧ N ≤ 65537 ∧ Hid (N = ((jnA l k).take 65537).length) ∧ Hid (JM wr o.heap.size G (.slice (some ⟨o.heap.size, 0, none⟩) G G) vs vs (fun (c : Nat) => adA l (c : Int) k) (.slice la2 N lc2) ((jnA l k).take 65537)) ∧ Hid (Below o.heap.size o wr)) (fun lv iv wr => l.length - (intOf iv).toNat)
 case atStart => exact ⟨0, _, none, 0, 0, Nat.zero_le _, rfl, rfl, by omega, TW.hide (by simp [jnA, catE]), HM3, HB2⟩
 case round =>
  clear HM3 HB2
  obtain ⟨k, vs, la2, lc2, N, hk, rfl, rfl, hN6, HN, HM, HB⟩ := hrel
  by_cases hlt : k < l.length
  ·have hk1 : (k : Int) < (l.length : Int) := by omega
   have hk0 : (0 : Int) ≤ (k : Int) := by omega
   have hk40 : k ≤ 40000 := by have := HLn.out; omega
   obtain ⟨b, off, who, op, a, va2, sh, hla, hev, _, _, _, _, x0, x1, x2, x3, x4⟩ := (HEw.out.below (NB.out.trans (HB.out.mono NB.out.size))).get k hlt
   subst hla
   have hfit := HGd.out k hlt
   have hev' : l.getD k Tr.e0 = ⟨who, op, a, va2, sh⟩ := hev
   rw [hev'] at hfit
   have HGa : Hid (op = 10 ∨ op = 11 → 0 ≤ a ∧ a < (G : Int)) := fun hop => by
    have := hfit.a s.groups (by unfold Tr.mnC; dsimp only; rw [if_neg (by omega), if_neg (by omega), if_pos (by omega)])
    have h2 := HGs.out
    dsimp only at this
    omega
   have HLT := TW.hide hlt
   have HEV := TW.hide hev
   obtain ⟨cs, hcs⟩ : ∃ cs, cs = (fun (c : Nat) => adA l (c : Int) k) := ⟨_, rfl⟩
   rw [← hcs] at HM
   have HCs : Hid (∀ j : Nat, cs j = adA l (j : Int) k) := fun j => by rw [hcs]
   obtain ⟨wa, rfl⟩ : ∃ x, x = wr := ⟨_, rfl⟩
   have hAl : Below wa.heap.size wa ((wa.alloc (.cells #[.int .i64 0, .int .i64 0, .int .i64 0, .int .i64 0, .bool false] 65)).setRow wa.heap.size #[.int .i64 who, .int .i64 op, .int .i64 a, .int .i64 va2, .bool sh]) := below_setRow ((Below.refl _ _).alloc (Nat.le_refl _) _) (Nat.le_refl _)
   have HM4 := TW.hide (HM.out.below hAl)
   have HB4 : Hid (Below o.heap.size o ((wa.alloc (.cells #[.int .i64 0, .int .i64 0, .int .i64 0, .int .i64 0, .bool false] 65)).setRow wa.heap.size #[.int .i64 who, .int .i64 op, .int .i64 a, .int .i64 va2, .bool sh])) := HB.out.trans (hAl.mono HB.out.size)
   have NE4 : Hid (((wa.alloc (.cells #[.int .i64 0, .int .i64 0, .int .i64 0, .int .i64 0, .bool false] 65)).setRow wa.heap.size #[.int .i64 who, .int .i64 op, .int .i64 a, .int .i64 va2, .bool sh]).heap[wa.heap.size]? = some (.cells #[.int .i64 who, .int .i64 op, .int .i64 a, .int .i64 va2, .bool sh] 65 (0, 0))) := setRow_heap _ _ _ _ _ _ (heap_alloc_new wa _)
   clear hlt hfit hev hev' hAl HM HB hcs hk
   refine wp_seq_k fun K1 hK1 => ?_
   have HK1 := TW.hide hK1
   clear hK1
   go_wp2
   refine HK1.out _ _ ?_
   clear HK1
   refine wp_seq_k fun K1 hK1 => ?_
   have HK1 := TW.hide hK1
   clear hK1
   go_wp2
   refine HK1.out _ _ ?_
   clear HK1
   refine wp_seq_k fun Kb hKb => ?_
   have HKb := TW.hide hKb
   clear hKb
   refine wp_block ?_
   refine wp_seq_k fun K1 hK1 => ?_
   have HK1 := TW.hide hK1
   clear hK1
   go_wp2_with (first | (refine wpList_store_row (by rfl) 65 _ _ (by rfl) wa.heap.size #[.int .i64 who, .int .i64 op, .int .i64 a, .int .i64 va2, .bool sh] (by rfl) (by rfl) 65 _ (heap_alloc_new wa _) (by kernel_rfl) (by rfl) (by simp [Value.oneCell']) ?_; generalize World.setRow _ _ _ = X at *; generalize wa.heap.size = ge at *) | fail)
   refine HK1.out _ _ ?_
   clear HK1 x0 x1 x2 x3 x4
   have HM := HM4
   have HB := HB4
   have NE := NE4
   clear HM4 HB4 NE4
   by_cases hop : op = 10
   ·obtain ⟨z0, z1, z2, z3, z4⟩ := cellsY5 NE.out
    obtain ⟨c, rfl⟩ : ∃ c : Nat, a = (c : Int) := ⟨a.toNat, by have := HGa.out (.inl hop); omega⟩
    have hcG : c < G := by have := HGa.out (.inl hop); omega
    have qc0 : (0 : Int) ≤ (c : Int) := by omega
    have qc1 : (c : Int) < (G : Int) := by omega
    have kop : (op == 10) = true := by simp [hop]
    obtain ⟨b1, c1, e1, hB1, y1, _⟩ := HM.out.hAt c hcG
    injection e1 with e11 _ e13
    injection e11 with e11
    injection e11 with e11
    subst e11 e13
    obtain ⟨ra, rcc, f1, _⟩ := HM.out.rIs c
    obtain ⟨rl, hrl⟩ : ∃ rl, (cs c).length = rl := ⟨_, rfl⟩
    rw [hrl] at f1
    rw [f1] at y1
    have HRo : Hid (X.ownsRow o.heap.size 3 1 (.slice ra rl rcc) rl ((cs c).map (Value.int .i64))) := by
     have h9 : X.ownsRow o.heap.size 3 1 (vs c) (cs c).length ((cs c).map (Value.int .i64)) := HM.out.fam.own (some (some c))
     rw [f1, hrl] at h9
     exact h9
    have hrl4 : rl ≤ 40000 := by
     have h9 := adA_len l (c : Int) k
     rw [← HCs.out c, hrl] at h9
     omega
    have HSo : Hid (o.heap.size ≤ X.heap.size) := HB.out.size
    have HcG := TW.hide hcG
    have HF1 := TW.hide f1
    have HRl := TW.hide hrl
    have HEnd : Hid (∀ Z u W5, Below X.heap.size X Z → (fun Z => Z.heap[ge]? = some (.cells #[.int .i64 who, .int .i64 op, .int .i64 (c : Int), .int .i64 va2, .bool sh] 65 (0, 0))) Z → W5.ownsRow o.heap.size 3 1 u (rl + 1) ((cs c).map (Value.int .i64) ++ [.int .i64 (k : Int)]) → Z.grownBy W5 (Value.slice ra rl rcc).ownBlock → (u.ownBlock = (Value.slice ra rl rcc).ownBlock ∨ u.ownBlock = some Z.heap.size) → (∃ ua uc, u = .slice ua (rl + 1) uc) ∧ ((fun Z => Z.heap[ge]? = some (.cells #[.int .i64 who, .int .i64 op, .int .i64 (c : Int), .int .i64 va2, .bool sh] 65 (0, 0))) W5 ∧ (fun Z => Z.heap[ge]? = some (.cells #[.int .i64 who, .int .i64 op, .int .i64 (c : Int), .int .i64 va2, .bool sh] 65 (0, 0))) (W5.setCell ⟨o.heap.size, c, none⟩ u)) ∧ W5.frozen? ⟨o.heap.size, c, none⟩ = false ∧ (∃ z, W5.cell? ⟨o.heap.size, c, none⟩ = some z) ∧ (JM (W5.setCell ⟨o.heap.size, c, none⟩ u) o.heap.size G (.slice (some ⟨o.heap.size, 0, none⟩) G G) (vup vs c u) (vup vs c u) (put cs c (cs c ++ [(k : Int)])) (.slice la2 N lc2) ((jnA l k).take 65537) ∧ Below o.heap.size o (W5.setCell ⟨o.heap.size, c, none⟩ u))) := fun Z u W5 hZ hZg h1 h2 h3 => by
     have hm := HM.out.below hZ
     have hro := own_belowI HRo.out hZ
     have hm2 := hm.appR c [(k : Int)] u (by rw [HRl.out]; exact h1) (by rw [HF1.out]; exact h2) (by rw [HF1.out]; exact h3)
     obtain ⟨b9, c9, e9, hB9, y9, fz9⟩ := hm2.hAt c HcG.out
     injection e9 with e91 _ e93
     injection e91 with e91
     injection e91 with e91
     subst e91 e93
     have hg5 : W5.heap[ge]? = some (.cells #[.int .i64 who, .int .i64 op, .int .i64 (c : Int), .int .i64 va2, .bool sh] 65 (0, 0)) := own_keepT hZg hro (by decide) h2
     have hb5 : Below o.heap.size o W5 := (HB.out.trans (hZ.mono HB.out.size)).grown h2 (HB.out.trans (hZ.mono HB.out.size)).size (fun q hq => own_blkI hro q hq)
     have hh5 : ∃ cur, W5.heap[o.heap.size]? = some (.cells cur 23 (0, 0)) := by
      have h9 : W5.ownsRow o.heap.size 23 1 (.slice (some ⟨o.heap.size, 0, none⟩) G G) G (rwI G vs) := hm2.fam.own (some none)
      rcases h9.2 with ⟨e, _⟩ | ⟨g, cap, cur, e, _, hh, _⟩
      ·cases e
      ·injection e with e1 _ _
       injection e1 with e1
       injection e1 with e1
       subst e1
       exact ⟨cur, hh⟩
     obtain ⟨cur5, hcur⟩ := hh5
     exact ⟨own_openE h1, ⟨hg5, blk_setN hg5 hcur (by decide)⟩, fz9, ⟨_, y9⟩, hm2.setH c u rfl, hb5.setCell (p := ⟨o.heap.size, c, none⟩) hB9 u⟩
    clear f1 hrl hcG
    clear HM HB
    go_wp2
    refine wp_region_noPanic ?_
    refine RG.wp_region_L (fun Z => Below X.heap.size X Z) (fun Z => Z.heap[ge]? = some (.cells #[.int .i64 who, .int .i64 op, .int .i64 (c : Int), .int .i64 va2, .bool sh] 65 (0, 0))) [10, 12] (by kernel_rfl) ?_
    refine RG.wpL_any fun Yz78 hY => ?_
    have HBz78 : Hid (Below X.heap.size X Yz78) := by rw [hY]; exact below_drewN (Below.refl _ _) 1
    clear hY
    have HTY := TW.hide (blk_keep NE.out HBz78.out)
    refine RG.wpL_take (fuel := 4) (a' := ?Az78) [0, 1, 2, 3, 4, 5, 6, 7, 8] (by kernel_rfl) (by kernel_rfl) (fun _ _ _ _ _ h => h) HTY.out (fun _ => HBz78.out) ?rz78 ?_
    case rz78 =>
     iterate 2
      refine RG.RunsIf.weak (v := ?_) (by rfl) (by rfl) (fun Z hT => ?_) ?_
      rotate_left
      ·go_simp
       rfl
      simp only [Act.put, lpA, lpZ, lpS, lgT, lgZ, lgS]
     refine RG.RunsIf.weak (v := .int .i64 (c : Int)) (by rfl) (by rfl) (fun Z hT => ?_) ?_
     ·obtain ⟨z0, z1, z2, z3, z4⟩ := cellsY5 hT
      go_simp
     simp only [Act.put, lpA, lpZ, lpS, lgT, lgZ, lgS]
     iterate 2
      refine RG.RunsIf.weak (v := ?_) (by rfl) (by rfl) (fun Z hT => ?_) ?_
      rotate_left
      ·go_simp
       rfl
      simp only [Act.put, lpA, lpZ, lpS, lgT, lgZ, lgS]
     refine RG.RunsIf.weak (v := .int .i64 (c : Int)) (by rfl) (by rfl) (fun Z hT => ?_) ?_
     ·obtain ⟨z0, z1, z2, z3, z4⟩ := cellsY5 hT
      go_simp
     simp only [Act.put, lpA, lpZ, lpS, lgT, lgZ, lgS]
     refine RG.RunsIf.weak (v := ?_) (by rfl) (by rfl) (fun Z hT => ?_) ?_
     rotate_left
     ·go_simp
      rfl
     simp only [Act.put, lpA, lpZ, lpS, lgT, lgZ, lgS]
     refine RG.RunsIf.strong (v := .slice ra rl rcc) (by rfl) (by kernel_rfl) (by rfl) (fun Z hT hS => ?_) ?_
     ·have y1 := keepC hS y1
      go_simp
     simp only [Act.put, lpA, lpZ, lpS, lgT, lgZ, lgS]
     refine RG.RunsIf.weak (v := ?_) (by rfl) (by rfl) (fun Z hT => ?_) ?_
     rotate_left
     ·go_simp
      rfl
     simp only [Act.put, lpA, lpZ, lpS, lgT, lgZ, lgS]
     exact RG.RunsIf.nil
    refine RG.wpL_step (i := 9) (by kernel_rfl) (by rfl) (by rfl) (fun KX hK => ?_)
    have HK := TW.hide hK
    clear hK
    go_simp
    have hAb : Below X.heap.size X (Yz78.alloc (.cells #[.int .i64 (k : Int)] 3)) := HBz78.out.alloc HBz78.out.size _
    have HAb := TW.hide hAb
    have HQc : Hid (∀ j u, ([.int .i64 (k : Int)] : List Value)[j]? = some u → (Yz78.alloc (.cells #[.int .i64 (k : Int)] 3)).cell? ((⟨Yz78.heap.size, 0, none⟩ : Addr).add j) = some u) := cell_one_new _ _ _
    have HTb := TW.hide (blk_keep NE.out HAb.out)
    have HRw := TW.hide (own_belowI HRo.out HAb.out)
    refine HK.out _ _ HTb.out (fun _ => HAb.out) ?_
    clear HK KX hAb HBz78 HTY
    generalize Yz78.alloc _ = Yb at *
    generalize Yz78.heap.size = gq at *
    try simp only [Act.put, lpA, lpZ, lpS, lgT, lgZ, lgS]
    refine RG.wpL_late (i := 10) (by kernel_rfl) (by rfl) (by rfl) (by kernel_rfl) (fun KX hK => ?_)
    have HK := TW.hide hK
    clear hK
    obtain ⟨i3, hi3, hz30, hz31, hz32⟩ := info_parts' intinfo
    refine wp_append_at _ _ 23 (by rfl) o.heap.size 3 i3 _ 1 8 Try.underlying23 hi3 hz30 hz31 hz32 rfl (by decide) (.slice ra rl rcc) rl ((cs c).map (Value.int .i64)) (by rfl) HRw.out ⟨gq, 0, none⟩ 1 1 [.int .i64 (k : Int)] (by rfl) rfl HQc.out (by simp [Value.oneCell']) (by unfold maxLen; omega) (by omega) (Nat.le_trans HSo.out HAb.out.size) ?_
    intro uu W5 hown5 hgr5 hat5
    obtain ⟨⟨ua, uc, rfl⟩, hT5, fz, ⟨zz, cz⟩, hkm⟩ := HEnd.out Yb uu W5 HAb.out HTb.out hown5 hgr5 hat5
    have HKM := TW.hide hkm
    have HT5 := TW.hide hT5
    clear hown5 hgr5 hat5 hkm hT5 HQc HRw hi3 hz30 hz31 hz32 HTb HAb
    refine HK.out _ _ HT5.out.1 ?_
    clear HK KX
    try simp only [Act.put, lpA, lpZ, lpS, lgT, lgZ, lgS]
    refine RG.wpL_take (fuel := 1) (a' := ?Bz78) [11] (by kernel_rfl) (by kernel_rfl) (fun _ _ _ _ _ h => h) HT5.out.1 (fun h => by cases (show false = true from h)) ?sz78 ?_
    case sz78 =>
     refine RG.RunsIf.weak (v := ?_) (by rfl) (by rfl) (fun Z hT => ?_) ?_
     rotate_left
     ·go_simp
      rfl
     simp only [Act.put, lpA, lpZ, lpS, lgT, lgZ, lgS]
     exact RG.RunsIf.nil
    refine RG.wpL_late (i := 12) (by kernel_rfl) (by rfl) (by rfl) (by kernel_rfl) (fun KX hK => ?_)
    have HK := TW.hide hK
    clear hK
    go_simp
    refine HK.out _ _ HT5.out.2 ?_
    clear HK KX cz fz HT5
    refine RG.wpL_done (by kernel_rfl) ?_ _
    refine NoPanic.normal ?_
    obtain ⟨hjm, hbb⟩ := HKM.out
    have HCn : Hid (∀ j : Nat, adA l (j : Int) (k + 1) = put cs c (cs c ++ [(k : Int)]) j) := fun j => by
     unfold put
     by_cases e : j = c
     ·subst e
      rw [if_pos rfl, adA_yes l _ k (by rw [HEV.out]; exact ⟨hop, rfl⟩), HCs.out j]
     ·rw [if_neg e, adA_no l _ k (by rw [HEV.out]; intro h; exact e (by have := h.2; dsimp only at this; omega)), HCs.out j]
    have HM9 : Hid (JM (W5.setCell ⟨o.heap.size, c, none⟩ (.slice ua (rl + 1) uc)) o.heap.size G (.slice (some ⟨o.heap.size, 0, none⟩) G G) (vup vs c (.slice ua (rl + 1) uc)) (vup vs c (.slice ua (rl + 1) uc)) (fun (c : Nat) => adA l (c : Int) (k + 1)) (.slice la2 N lc2) ((jnA l (k + 1)).take 65537)) := by
     have e1 : jnA l (k + 1) = jnA l k := by
      rw [jnA_succ]
      unfold jnE
      rw [if_neg (by rw [HEV.out]; show ¬ op = 11; omega), List.append_nil]
     show JM _ _ _ _ _ _ _ _ _
     rw [e1]
     exact hjm.cong HCn.out
    have HB9 := TW.hide hbb
    have HN9 : Hid (N = ((jnA l (k + 1)).take 65537).length) := by
     show _ = _
     rw [jnA_succ]
     unfold jnE
     rw [if_neg (by rw [HEV.out]; show ¬ op = 11; omega), List.append_nil]
     exact HN.out
    clear hop hjm hbb HKM HEnd
    generalize World.setCell _ _ _ = Y9 at *
    go_wp2
    refine HKb.out _ _ ?_
    go_wp2
    go_roundw
    case rel => exact ⟨k + 1, _, la2, lc2, N, HLT.out, by go_num, rfl, hN6, HN9, HM9, HB9⟩
    case measure => simp [intOf]; have := HLT.out; omega
   ·by_cases h11 : op = 11
    ·have hop0 := hop
     clear hop
     have hop := h11
     clear h11
     obtain ⟨c, rfl⟩ : ∃ c : Nat, a = (c : Int) := ⟨a.toNat, by have := HGa.out (.inr hop); omega⟩
     have hcG : c < G := by have := HGa.out (.inr hop); omega
     have qc0 : (0 : Int) ≤ (c : Int) := by omega
     have qc1 : (c : Int) < (G : Int) := by omega
     have kop0 : (op == 10) = false := by simp; omega
     have kop : (op == 11) = true := by simp [hop]
     obtain ⟨b1, c1, e1, hB1, y1, _⟩ := HM.out.hAt c hcG
     injection e1 with e11 _ e13
     injection e11 with e11
     injection e11 with e11
     subst e11 e13
     obtain ⟨ra, rcc, f1, hcap1, hnil, hcm⟩ := HM.out.rCap c
     obtain ⟨rl, hrl⟩ : ∃ rl, (cs c).length = rl := ⟨_, rfl⟩
     rw [hrl] at f1 hcap1
     rw [f1] at y1
     have HOp := TW.hide hop
     have HRl := TW.hide hrl
     have HF1 := TW.hide f1
     have hrl4 : rl ≤ 40000 := by
      have h9 := adA_len l (c : Int) k
      rw [← HCs.out c, hrl] at h9
      omega
     have kw : IntKind.i64.wrap (65537 - (N : Int)) = 65537 - (N : Int) := by rw [IntKind.wrap_i64]; omega
     obtain ⟨room, hroom⟩ : ∃ room : Nat, room = min (65537 - N) rl := ⟨_, rfl⟩
     have km : min (65537 - (N : Int)) (rl : Int) = (room : Int) := by omega
     have hroom1 : room ≤ rl := by omega
     have HRoom := TW.hide hroom
     have qr0 : (0 : Int) ≤ (room : Int) := by omega
     have qr1 : (room : Int) ≤ (rcc : Int) := by omega
     have HB0 := HB
     have HM0 : Hid (JM X o.heap.size G (.slice (some ⟨o.heap.size, 0, none⟩) G G) vs vs cs (.slice la2 N lc2) (((jnA l k).take 65537) ++ ((cs c).take 0).map (fun x => (x, (k : Int))))) := by
      show JM _ _ _ _ _ _ _ _ _
      rw [List.take_zero, List.map_nil, List.append_nil]
      exact HM.out
     obtain ⟨z0, z1, z2, z3, z4⟩ := cellsY5 NE.out
     clear f1 hrl hop hcG hroom
     clear HM HB
     go_wp2
     go_loopw [5, 61] (fun lv pv wr => ∃ (p : Nat) (la3 : Option Addr) (lc3 N3 : Nat), p ≤ room ∧ pv = .int .i64 (p : Int) ∧ lv = .slice la3 N3 lc3 ∧ Hid (N3 = N + p) ∧ N3 ≤ 200000 ∧ Hid (JM wr o.heap.size G (.slice (some ⟨o.heap.size, 0, none⟩) G G) vs vs cs (.slice la3 N3 lc3) (((jnA l k).take 65537) ++ ((cs c).take p).map (fun x => (x, (k : Int))))) ∧ Hid (Below o.heap.size o wr)) (fun lv pv wr => room - (intOf pv).toNat)
     case atStart => exact ⟨0, la2, lc2, N, Nat.zero_le _, rfl, rfl, rfl, by omega, HM0, HB0⟩
     case round =>
      clear HM0 HB0
      obtain ⟨p, la3, lc3, N3, hp, rfl, rfl, HN3, hN32, HM, HB⟩ := hrel
      by_cases hlt : p < room
      ·have qp1 : (p : Int) < (room : Int) := by omega
       have qp0 : (0 : Int) ≤ (p : Int) := by omega
       have HPl := TW.hide hlt
       have hN33 : N3 + 1 ≤ 200000 := by have := HN3.out; omega
       obtain ⟨ra_, rc_, f1, hnr⟩ := HM.out.rIs c
       rw [HF1.out] at f1
       injection f1 with f11 f12 f13
       clear f12
       subst f11 f13
       rcases hnr with h | ⟨b2, o2, rfl, hc⟩
       ·have := HRl.out; rw [h] at this; simp at this; omega
       have ym := hc p (by rw [HRl.out]; omega)
       obtain ⟨x0, hx0⟩ : ∃ x0, (cs c).getD p 0 = x0 := ⟨_, rfl⟩
       rw [hx0] at ym
       obtain ⟨es, hes⟩ : ∃ es, es = ((jnA l k).take 65537) ++ ((cs c).take p).map (fun x => (x, (k : Int))) := ⟨_, rfl⟩
       have HEs : Hid (((jnA l k).take 65537) ++ ((cs c).take (p + 1)).map (fun x => (x, (k : Int))) = es ++ [(x0, (k : Int))]) := by
        show _ = _
        rw [hes, take_one9 _ p (by rw [HRl.out]; omega) 0, hx0, List.map_append, List.append_assoc]
        rfl
       rw [← hes] at HM
       have HLe : Hid (es.length = N3) := by
        show _ = _
        rw [hes, List.length_append, ← HN.out, List.length_map, List.length_take, HRl.out, HN3.out]
        omega
       obtain ⟨wc, rfl⟩ : ∃ x, x = wr := ⟨_, rfl⟩
       have hAl : Below wc.heap.size wc (wc.alloc (.cells #[.int .i64 x0, .int .i64 (k : Int)] 35)) := (Below.refl _ _).alloc (Nat.le_refl _) _
       have HMa := TW.hide (HM.out.below hAl)
       have HOa : Hid ((wc.alloc (.cells #[.int .i64 x0, .int .i64 (k : Int)] 35)).ownsRow o.heap.size 35 2 (.slice la3 N3 lc3) N3 (edC es)) := by
        have h9 : (wc.alloc (.cells #[.int .i64 x0, .int .i64 (k : Int)] 35)).ownsRow o.heap.size 35 2 (.slice la3 N3 lc3) es.length (edC es) := HMa.out.fam.own none
        rw [HLe.out] at h9
        exact h9
       have HBa : Hid (Below o.heap.size o (wc.alloc (.cells #[.int .i64 x0, .int .i64 (k : Int)] 35))) := HB.out.trans (hAl.mono HB.out.size)
       have HF5 : Hid (∀ v5 w5, w5.ownsRow o.heap.size 35 2 v5 (N3 + 1) (edC es ++ [.int .i64 x0, .int .i64 (k : Int)]) → (wc.alloc (.cells #[.int .i64 x0, .int .i64 (k : Int)] 35)).grownBy w5 (Value.slice la3 N3 lc3).ownBlock → (v5.ownBlock = (Value.slice la3 N3 lc3).ownBlock ∨ v5.ownBlock = some (wc.alloc (.cells #[.int .i64 x0, .int .i64 (k : Int)] 35)).heap.size) → (∃ va vc, v5 = .slice va (N3 + 1) vc) ∧ JM w5 o.heap.size G (.slice (some ⟨o.heap.size, 0, none⟩) G G) vs vs cs v5 (es ++ [(x0, (k : Int))]) ∧ Below o.heap.size o w5) := fun v5 w5 h1 h2 h3 =>
        ⟨own_openE h1, HMa.out.appE (x0, (k : Int)) v5 (by rw [HLe.out]; exact h1) h2 h3, HBa.out.grown h2 HBa.out.size (fun q hq => own_blkI HOa.out q hq)⟩
       have HSa : Hid (o.heap.size ≤ (wc.alloc (.cells #[.int .i64 x0, .int .i64 (k : Int)] 35)).heap.size) := HBa.out.size
       clear hAl HMa HBa HM HB hx0 hes hc hlt hp
       refine wp_seq_k fun K1 hK1 => ?_
       have HK1 := TW.hide hK1
       clear hK1
       go_wp2
       refine HK1.out _ _ ?_
       clear HK1
       refine wp_seq_k fun K1 hK1 => ?_
       have HK1 := TW.hide hK1
       clear hK1
       go_wp2
       refine HK1.out _ _ ?_
       clear HK1
       refine wp_seq_k fun Kc hKc => ?_
       have HKc := TW.hide hKc
       clear hKc
       refine wp_block ?_
       refine wp_seq_k fun K1 hK1 => ?_
       have HK1 := TW.hide hK1
       clear hK1
       go_wp2
       refine HK1.out _ _ ?_
       clear HK1
       go_wp2_with (at_builtin; refine wpList_append_own_at _ rfl _ _ 28 rfl o.heap.size 35 ie _ 2 16 Try.underlying28 hie hze0 hze1 hze2 rfl (by decide) _ N3 (edC es) rfl HOa.out ⟨wc.heap.size, 0, none⟩ 1 1 [.int .i64 x0, .int .i64 (k : Int)] rfl rfl (cells_two _ _ _ _) (by simp [Value.oneCell']) (by unfold maxLen; omega) (by omega) HSa.out ?_; (intro v5 w5 h51 h52 _ h53); obtain ⟨⟨va, vc, rfl⟩, hm5, hb5⟩ := HF5.out v5 w5 h51 h52 h53; rw [← HEs.out] at hm5; have HM5 := TW.hide hm5; have HB5 := TW.hide hb5; clear h51 h52 h53 hm5 hb5 HF5)
       refine HKc.out _ _ ?_
       clear HOa HSa ym HEs HLe
       go_wp2
       go_roundw
       case rel => exact ⟨p + 1, va, vc, N3 + 1, HPl.out, by go_num, rfl, TW.hide (by have := HN3.out; omega), hN33, HM5, HB5⟩
       case measure => simp [intOf]; have := HPl.out; omega
      ·obtain rfl : room = p := by omega
       have qk : ¬ (room : Int) < (room : Int) := by omega
       have hE : ((jnA l k).take 65537) ++ ((cs c).take room).map (fun x => (x, (k : Int))) = ((jnA l (k + 1)).take 65537) := by
        have h1 : jnE l k = (cs c).map (fun x => (x, (k : Int))) := by
         unfold jnE
         rw [if_pos (by rw [HEV.out]; exact HOp.out), HEV.out, HCs.out c]
        rw [jnA_succ, ← take_cut, ← HN.out, h1, ← List.map_take]
        congr 2
        rw [HRoom.out]
        rcases Nat.le_total (65537 - N) rl with h | h
        ·rw [Nat.min_eq_left h]
        ·rw [Nat.min_eq_right h, List.take_of_length_le (by rw [HRl.out]; exact Nat.le_refl _), List.take_of_length_le (by rw [HRl.out]; exact h)]
       have hJl : ((cs c).take room).length = room := by
        rw [List.length_take, HRl.out]
        omega
       have HN9 : Hid (N3 = ((jnA l (k + 1)).take 65537).length) := by
        show _ = _
        rw [← hE, List.length_append, ← HN.out, List.length_map, hJl, HN3.out]
       have hN9 : N3 ≤ 65537 := by have := HN3.out; have := HRoom.out; omega
       have HM9 : Hid (JM wr o.heap.size G (.slice (some ⟨o.heap.size, 0, none⟩) G G) vs vs (fun (c : Nat) => adA l (c : Int) (k + 1)) (.slice la3 N3 lc3) ((jnA l (k + 1)).take 65537)) := by
        have h9 := HM.out
        rw [hE] at h9
        exact h9.cong (fun j => by
         rw [adA_no l _ k (by rw [HEV.out]; intro h; have := h.1; have h2 := HOp.out; dsimp only at this; omega)]
         exact (HCs.out j).symm)
       clear HM hE hJl hlt hp
       go_wp2
       refine HKb.out _ _ ?_
       go_wp2
       go_roundw
       case rel => exact ⟨k + 1, vs, la3, lc3, N3, HLT.out, by go_num, rfl, hN9, HN9, HM9, HB⟩
       case measure => simp [intOf]; have := HLT.out; omega
    ·have h10 := hop
     clear hop
     have kop0 : (op == 10) = false := by simp [h10]
     have kop1 : (op == 11) = false := by simp [h11]
     have HM9 : Hid (JM X o.heap.size G (.slice (some ⟨o.heap.size, 0, none⟩) G G) vs vs (fun (c : Nat) => adA l (c : Int) (k + 1)) (.slice la2 N lc2) ((jnA l (k + 1)).take 65537)) := by
      have e1 : jnA l (k + 1) = jnA l k := by
       rw [jnA_succ]
       unfold jnE
       rw [if_neg (by rw [HEV.out]; exact h11), List.append_nil]
      show JM _ _ _ _ _ _ _ _ _
      rw [e1]
      exact HM.out.cong (fun j => by
       rw [adA_no l _ k (by rw [HEV.out]; exact fun h => h10 h.1)]
       exact (HCs.out j).symm)
     have HN9 : Hid (N = ((jnA l (k + 1)).take 65537).length) := by
      show _ = _
      rw [jnA_succ]
      unfold jnE
      rw [if_neg (by rw [HEV.out]; exact h11), List.append_nil]
      exact HN.out
     obtain ⟨z0, z1, z2, z3, z4⟩ := cellsY5 NE.out
     clear h10 h11 HM
     go_wp2
     refine HKb.out _ _ ?_
     go_wp2
     go_roundw
     case rel => exact ⟨k + 1, vs, la2, lc2, N, HLT.out, by go_num, rfl, hN6, HN9, HM9, HB⟩
     case measure => simp [intOf]; have := HLT.out; omega
  ·obtain rfl : k = l.length := by omega
   have qk : ¬ (l.length : Int) < (l.length : Int) := by omega
   have HO9 : Hid (wr.ownsRow o.heap.size 35 2 (.slice la2 N lc2) ((jnA l l.length).take 65537).length (edC ((jnA l l.length).take 65537))) := HM.out.fam.own none
   have HR := TW.hide (HPo.out wr _ (own_baseL HO9.out HXs.out) (NB.out.trans (HB.out.mono NB.out.size)))
   clear HM HN hlt HO9
   go_wp2
   refine HKl.out _ _ ?_
   clear HKl
   go_wp2
   first | exact HR.out | exact ⟨rfl, HR.out⟩
end LW
end Go.Proofs.Ythcndgnpmefefaa
namespace Go.Proofs.Ythcndgnpmefefaa
open List renaming setIfInBounds_toArray → lpA, set_cons_zero → lpZ, set_cons_succ → lpS, getElem_toArray → lgT, getElem_cons_zero → lgZ, getElem_cons_succ → lgS
open Go.RowKit
set_option linter.unusedVariables false
set_option linter.unusedSimpArgs false
namespace LW
open Mc
/-- A row is put behind a row, whatever its length. -/
theorem wp_append_rows {P : Program} {w : World} {o : Oper} {a : Act} {K : Act → World → Prop} {Q : Exit → Act → World → Prop} (s x : Operand) (t : TypeId)
  (ho : o.op = .call { callee := .builtin .append, args := #[s, x], argTypes := #[t, t] })
  (base base2 : Nat) (e : TypeId) (i : TypeInfo) (z : Value) (size bytes : Nat) (ht : P.underlying t = some (.slice e)) (hi : P.info? e = some i) (hz : i.zero = some z)
  (hsize : i.size = size) (hby : i.bytes = bytes) (hzs : z.cells.size = size) (hsz : 0 < size)
  (v v2 : Value) (n n2 : Nat) (xs xs2 : List Value) (hs : a.eval s = v) (hown : w.ownsRow base e size v n xs) (hx : a.eval x = v2) (hown2 : w.ownsRow base2 e size v2 n2 xs2) (h1 : ∀ u ∈ xs2, u.oneCell' = true)
  (h63 : n + n2 ≤ maxLen) (hbytes : (n + n2) * bytes ≤ 140737488355328) (hbase : base ≤ w.heap.size)
  (h : ∀ v' w', w'.ownsRow base e size v' (n + n2) (xs ++ xs2) → w.grownBy w' v.ownBlock → K (a.put o.dst v') w') : o.wp P a w K Q := by
 rcases hown2.2 with ⟨rfl, h0⟩ | ⟨g, cap, cur, rfl, _⟩
 ·subst h0
  have hn : xs2 = [] := List.eq_nil_of_length_eq_zero (by have := hown2.1; omega)
  subst hn
  have hrun := run_append_owned_none (P := P) (w := w) base t o.type e i size ht hi v n xs hown
  have hk := h v w (by rw [List.append_nil, Nat.add_zero]; exact hown) ⟨rfl, rfl, rfl, Nat.le_refl _, fun _ _ _ => rfl⟩
  unfold Oper.wp
  simp [execOp, ho, resolve, invoke, builtin, hs, hx, hrun, Result.andThen]
  exact hk
 ·exact wp_append_at s x t ho base e i z size bytes ht hi hz hsize hby hzs hsz v n xs hs hown ⟨g, 0, none⟩ n2 cap xs2 hx (hown2.1) (fun j u hj => hown2.cells (g := g) rfl j u hj) h1 h63 hbytes hbase (fun v' w' q1 q2 _ => h v' w' q1 q2)
theorem edC_one (a : List Eg2) : ∀ u ∈ edC a, u.oneCell' = true := by
 intro u hu
 unfold edC at hu
 obtain ⟨x, _, hx⟩ := List.mem_flatMap.1 hu
 simp at hx
 rcases hx with rfl | rfl <;> rfl
set_option maxRecDepth 100000 in
set_option maxHeartbeats 40000000 in
theorem pedges (s : Syst) (pa : Option Addr) (pc : Nat) (ra : Option Addr) (rc : Nat) (la : Option Addr) (lc : Nat) (l : List Ev) (w : World) (hs : SyI w s pa ra) (hl : EvI w la lc l) (ho : Ok s) (hg : Tr.Gd s l l.length) (hL : l.length ≤ 40000) :
  Calls Try.prog 20 #[.agg #[.slice pa s.progs.length pc, .slice ra s.rooms.length rc, .int .i64 s.groups, .int .i64 s.locks, .int .i64 s.cells, .slice la l.length lc, .int .i64 (Tr.rnC l : Int)]] w (fun e w' => ∃ v ln E, e = .returned v ∧ (∀ x, x ∈ ln ↔ x ∈ Tr.edF s l l.length) ∧ Ord E ∧ (∀ x, x ∈ E ↔ x ∈ ln ++ (jnA l l.length).take 65537) ∧ w'.ownsRow w.heap.size 35 2 v E.length (edC E) ∧ Below w.heap.size w w') := by
 obtain ⟨POST, hP⟩ : ∃ Q : Ending → World → Prop, Q = fun e w' => ∃ v ln E, e = .returned v ∧ (∀ x, x ∈ ln ↔ x ∈ Tr.edF s l l.length) ∧ Ord E ∧ (∀ x, x ∈ E ↔ x ∈ ln ++ (jnA l l.length).take 65537) ∧ w'.ownsRow w.heap.size 35 2 v E.length (edC E) ∧ Below w.heap.size w w' := ⟨_, rfl⟩
 have HPo : Hid (∀ W v ln E, (∀ x, x ∈ ln ↔ x ∈ Tr.edF s l l.length) → Ord E → (∀ x, x ∈ E ↔ x ∈ ln ++ (jnA l l.length).take 65537) → W.ownsRow w.heap.size 35 2 v E.length (edC E) → Below w.heap.size w W → POST (.returned v) W) := fun W v ln E h1 h2 h3 h4 h5 => by
  rw [hP]
  exact ⟨v, ln, E, rfl, h1, h2, h3, h4, h5⟩
 rw [← hP]
 clear hP
 have hRm : ∀ c, 0 ≤ s.rooms.getD c 0 := fun c => by
  by_cases h : c < s.rooms.length
  ·have := (ho.rm c h).1; omega
  ·rw [List.getD_eq_getElem?_getD, List.getElem?_eq_none (by omega)]; exact Int.le_refl _
 have HLl : Hid (∀ ln : List Eg2, Ord ln → (∀ x, x ∈ ln ↔ x ∈ Tr.edF s l l.length) → ln.length ≤ 1600000000) := fun ln h1 h2 => by
  have h3 := ord_bound h1 l.length (fun x hx => by
   have hx := (h2 x).1 hx
   obtain ⟨i, j, rfl⟩ := edF_nat s l _ x hx
   have h4 := (Tr.edF_mem hg (Nat.le_refl _) hRm i j).1 hx
   exact ⟨i, j, rfl, h4.2.lt, h4.1⟩)
  have h5 : l.length * l.length ≤ 40000 * 40000 := Nat.mul_le_mul hL hL
  omega
 have HJl : Hid (((jnA l l.length).take 65537).length ≤ 65537) := by
  show _ ≤ _
  rw [List.length_take]
  omega
 have HLk : Hid (∀ W, Below w.heap.size w W → Calls Try.prog 24 #[.agg #[.slice pa s.progs.length pc, .slice ra s.rooms.length rc, .int .i64 s.groups, .int .i64 s.locks, .int .i64 s.cells, .slice la l.length lc, .int .i64 (Tr.rnC l : Int)]] W (LnQ W s l)) := fun W hW => plinks s pa pc ra rc la lc l W (hs.below hW) (hl.below hW) ho hg hL
 have HJo : Hid (∀ W, Below w.heap.size w W → Calls Try.prog 37 #[.agg #[.slice pa s.progs.length pc, .slice ra s.rooms.length rc, .int .i64 s.groups, .int .i64 s.locks, .int .i64 s.cells, .slice la l.length lc, .int .i64 (Tr.rnC l : Int)], .int .i64 65537] W fun e w' => ∃ v, e = .returned v ∧ w'.ownsRow W.heap.size 35 2 v ((jnA l l.length).take 65537).length (edC ((jnA l l.length).take 65537)) ∧ Below W.heap.size W w') := fun W hW => pjoins s pa pc ra rc la lc l W (hl.below hW) ho hg hL
 clear hs hl ho hg hRm
 obtain ⟨ie, hie, hze0, hze1, hze2⟩ := info_parts' edinfo
 have hA : Below w.heap.size w (w.alloc (.cells #[.slice pa s.progs.length pc, .slice ra s.rooms.length rc, .int .i64 s.groups, .int .i64 s.locks, .int .i64 s.cells, .slice la l.length lc, .int .i64 (Tr.rnC l : Int)] 57)) := (Below.refl _ _).alloc (Nat.le_refl _) _
 have N1 : Hid ((w.alloc (.cells #[.slice pa s.progs.length pc, .slice ra s.rooms.length rc, .int .i64 s.groups, .int .i64 s.locks, .int .i64 s.cells, .slice la l.length lc, .int .i64 (Tr.rnC l : Int)] 57)).heap[w.heap.size]? = some (.cells #[.slice pa s.progs.length pc, .slice ra s.rooms.length rc, .int .i64 s.groups, .int .i64 s.locks, .int .i64 s.cells, .slice la l.length lc, .int .i64 (Tr.rnC l : Int)] 57 (0, 0))) := heap_alloc_new w _
 have NB := TW.hide hA
 clear hA
 go_enter Try.func20, Try.ntmps20
 refine wp_seq_k fun K hK => ?_
 have HK := TW.hide hK
 clear hK
 go_wp2
 refine HK.out _ _ ?_
 clear HK K
 generalize w.alloc _ = X at *
 have HX : Hid (Below X.heap.size X X) := Below.refl _ _
 have HXs : Hid (w.heap.size ≤ X.heap.size) := NB.out.size
 refine wp_seq_k fun K1 hK1 => ?_
 have HK1 := TW.hide hK1
 clear hK1
 refine wp_region_noPanic ?_
 refine RG.wp_region_L (fun Z => True) (fun Z => Below X.heap.size X Z) [] (by kernel_rfl) ?_
 refine RG.wpL_any fun Ya hY => ?_
 have HTa : Hid (Below X.heap.size X Ya) := by rw [hY]; exact below_drewN HX.out 1
 clear hY
 refine RG.wpL_take (fuel := 5) (a' := ?Aa) [0, 2] (by kernel_rfl) (by kernel_rfl) (fun _ _ _ _ _ h => h) HTa.out (fun _ => trivial) ?ra ?_
 case ra =>
  iterate 2
   refine RG.RunsIf.weak (v := .agg #[.slice pa s.progs.length pc, .slice ra s.rooms.length rc, .int .i64 s.groups, .int .i64 s.locks, .int .i64 s.cells, .slice la l.length lc, .int .i64 (Tr.rnC l : Int)]) (by rfl) (by rfl) (fun Z hT => ?_) ?_
   ·obtain ⟨q0, q1, q2, q3, q4, q5, q6⟩ := cellsY7 (blk_keep N1.out hT)
    go_simp
   simp only [Act.put, lpA, lpZ, lpS, lgT, lgZ, lgS]
  exact RG.RunsIf.nil
 refine RG.wpL_step (i := 1) (by kernel_rfl) (by rfl) (by rfl) (fun KX hK => ?_)
 have HK := TW.hide hK
 clear hK
 go_simp
 refine (HLk.out Ya (NB.out.trans (HTa.out.mono NB.out.size))).mono ?_
 rintro e_Wa Wa ⟨v1, ln, rfl, hv1, hor, hme, hb⟩
 have HTb : Hid (Below X.heap.size X Wa) := HTa.out.trans (hb.mono HTa.out.size)
 have HO1 := TW.hide (own_baseL hv1 HTa.out.size)
 have HLo := TW.hide hor
 have HLm := TW.hide hme
 clear hv1 hor hme
 refine HK.out _ _ HTb.out (fun _ => trivial) ?_
 clear HK KX hb
 try simp only [Act.put, lpA, lpZ, lpS, lgT, lgZ, lgS]
 refine RG.wpL_step (i := 3) (by kernel_rfl) (by rfl) (by rfl) (fun KX hK => ?_)
 have HK := TW.hide hK
 clear hK
 go_simp
 refine (HJo.out Wa (NB.out.trans (HTb.out.mono NB.out.size))).mono ?_
 rintro e_Wb Wb ⟨v2, rfl, hv2, hb⟩
 have HTc : Hid (Below X.heap.size X Wb) := HTb.out.trans (hb.mono HTb.out.size)
 have HO2 := TW.hide (own_belowI HO1.out hb)
 have HO3 := TW.hide hv2
 clear hv2
 refine HK.out _ _ HTc.out (fun _ => trivial) ?_
 clear HK KX hb
 try simp only [Act.put, lpA, lpZ, lpS, lgT, lgZ, lgS]
 refine RG.wpL_step (i := 4) (by kernel_rfl) (by rfl) (by rfl) (fun KX hK => ?_)
 have HK := TW.hide hK
 clear hK
 refine wp_append_rows _ _ 28 (by rfl) X.heap.size _ 35 ie (.agg #[.int .i64 0, .int .i64 0]) 2 16 Try.underlying28 hie hze0 hze1 hze2 rfl (by decide) v1 v2 _ _ _ _ (by rfl) HO2.out (by rfl) HO3.out (edC_one _) (by have := HLl.out ln HLo.out HLm.out; have := HJl.out; unfold maxLen; omega) (by have := HLl.out ln HLo.out HLm.out; have := HJl.out; omega) HTc.out.size ?_
 intro v5 w5 hown5 hgr5
 rw [← List.length_append, ← edC_app] at hown5
 have HB5 : Hid (Below X.heap.size X w5) := HTc.out.grown hgr5 HTc.out.size (fun q hq => own_blkI HO2.out q hq)
 have HO5 := TW.hide hown5
 have HL5 : Hid ((ln ++ (jnA l l.length).take 65537).length ≤ 4000000000) := by
  show _ ≤ _
  rw [List.length_append]
  have := HLl.out ln HLo.out HLm.out
  have := HJl.out
  omega
 clear hown5 hgr5 HO2 HO3 HO1
 refine HK.out _ _ HB5.out (fun _ => trivial) ?_
 clear HK KX
 try simp only [Act.put, lpA, lpZ, lpS, lgT, lgZ, lgS]
 refine RG.wpL_step (i := 5) (by kernel_rfl) (by rfl) (by rfl) (fun KX hK => ?_)
 have HK := TW.hide hK
 clear hK
 go_simp
 refine (pino X.heap.size v5 _ w5 HO5.out HL5.out HB5.out.size).mono ?_
 rintro e6 W6 ⟨v6, E, rfl, ho6, hr6, hm6, hb6⟩
 have HB6 : Hid (Below X.heap.size X W6) := HB5.out.trans hb6
 have HR := TW.hide (HPo.out W6 v6 ln E HLm.out hr6 hm6 (own_baseL ho6 HXs.out) (NB.out.trans (HB6.out.mono NB.out.size)))
 clear ho6 hr6 hm6 hb6
 refine HK.out _ _ HB6.out (fun _ => trivial) ?_
 clear HK KX HB5 HO5 HL5
 try simp only [Act.put, lpA, lpZ, lpS, lgT, lgZ, lgS]
 refine RG.wpL_take (fuel := 0) (a' := ?Aax) [6] (by kernel_rfl) (by kernel_rfl) (fun _ _ _ _ _ h => h) HB6.out (fun _ => trivial) ?rax ?_
 case rax =>
  refine RG.RunsIf.weak (v := ?_) (by rfl) (by rfl) (fun Z hT => ?_) ?_
  rotate_left
  ·go_simp
   rfl
  simp only [Act.put, lpA, lpZ, lpS, lgT, lgZ, lgS]
  exact RG.RunsIf.nil
 refine RG.wpL_done (by kernel_rfl) ?_ _
 refine NoPanic.normal ?_
 refine HK1.out _ _ ?_
 clear HK1
 go_wp2
 first | exact HR.out | exact ⟨rfl, HR.out⟩
set_option maxRecDepth 100000 in
set_option maxHeartbeats 4000000 in
theorem ptedges (s : Syst) (pa : Option Addr) (pc : Nat) (ra : Option Addr) (rc : Nat) (la : Option Addr) (lc : Nat) (l : List Ev) (w : World) (hs : SyI w s pa ra) (hl : EvI w la lc l) :
  Calls Try.prog 8 #[.agg #[.slice pa s.progs.length pc, .slice ra s.rooms.length rc, .int .i64 s.groups, .int .i64 s.locks, .int .i64 s.cells], .slice la l.length lc] w (EdU w s l) := by
 obtain ⟨POST, hP⟩ : ∃ Q : Ending → World → Prop, Q = (EdU w s l) := ⟨_, rfl⟩
 obtain ⟨va, vn, ve, hV⟩ : ∃ a n e, Tr.vR s l = (a, n, e) := ⟨_, _, _, rfl⟩
 have HRd : Hid (∀ W, Below w.heap.size w W → Calls Try.prog 19 #[.agg #[.slice pa s.progs.length pc, .slice ra s.rooms.length rc, .int .i64 s.groups, .int .i64 s.locks, .int .i64 s.cells], .slice la l.length lc] W fun e w' => ∃ hc, e = .returned (.tuple #[.agg hc, .int .i64 va, .int .i64 ve]) ∧ (ve = 0 → hc = #[.slice pa s.progs.length pc, .slice ra s.rooms.length rc, .int .i64 s.groups, .int .i64 s.locks, .int .i64 s.cells, .slice la l.length lc, .int .i64 (Tr.rnC l : Int)]) ∧ (ve ≠ 0 → hc = #[.slice none 0 0, .slice none 0 0, .int .i64 0, .int .i64 0, .int .i64 0, .slice none 0 0, .int .i64 0]) ∧ Below W.heap.size W w') := fun W hW => (pread s pa pc ra rc la lc l W (hs.below hW) (hl.below hW)).mono (fun e w' h => by unfold ReaQ at h; rw [hV] at h; exact h)
 have HOk : Hid (ve = 0 → Ok s ∧ l.length ≤ 40000 ∧ Tr.Gd s l l.length) := fun h => by
  have h2 := Tr.vR_ok (s := s) (l := l) (by rw [hV]; exact h)
  exact ⟨h2.1, h2.2.1, h2.2.2.1⟩
 have HPe : Hid (ve ≠ 0 → ∀ W, Below w.heap.size w W → POST (.returned (.tuple #[.slice none 0 0, .int .i64 ve])) W) := fun h W hW => by
  rw [hP]
  have := edu_err (s := s) (l := l) (by rw [hV]; exact h) hW
  rw [hV] at this
  exact this
 have HPa : Hid (ve = 0 → 65536 < (egA s l l.length).length → ∀ W, Below w.heap.size w W → POST (.returned (.tuple #[.slice none 0 0, .int .i64 2])) W) := fun h hi W hW => by
  rw [hP]
  exact edu_long (by rw [hV]; exact h) hi hW
 have HPo : Hid (ve = 0 → ¬ 65536 < (egA s l l.length).length → ∀ W v, W.ownsRow w.heap.size 35 2 v (egA s l l.length).length (edC (egA s l l.length)) → Below w.heap.size w W → POST (.returned (.tuple #[v, .int .i64 0])) W) := fun h hi W v ho hW => by
  rw [hP]
  exact edu_ok (by rw [hV]; exact h) hi ho hW
 rw [← hP]
 have HEw := TW.hide hl
 have HSw := TW.hide hs
 clear hP hs hl hV
 have hA : Below w.heap.size w (w.alloc (.cells #[.slice pa s.progs.length pc, .slice ra s.rooms.length rc, .int .i64 s.groups, .int .i64 s.locks, .int .i64 s.cells] 25)) := (Below.refl _ _).alloc (Nat.le_refl _) _
 have N1 : Hid ((w.alloc (.cells #[.slice pa s.progs.length pc, .slice ra s.rooms.length rc, .int .i64 s.groups, .int .i64 s.locks, .int .i64 s.cells] 25)).heap[w.heap.size]? = some (.cells #[.slice pa s.progs.length pc, .slice ra s.rooms.length rc, .int .i64 s.groups, .int .i64 s.locks, .int .i64 s.cells] 25 (0, 0))) := heap_alloc_new w _
 have NB := TW.hide hA
 clear hA
 go_enter Try.func8, Try.ntmps8
 refine wp_seq_k fun K hK => ?_
 have HK := TW.hide hK
 clear hK
 go_wp2
 refine HK.out _ _ ?_
 clear HK K
 generalize w.alloc _ = X at *
 obtain ⟨s0, s1, s2, s3, s4⟩ := cellsY5 N1.out
 go_wp2_with fail
 refine (HRd.out X NB.out).mono ?_
 rintro e1 W1 ⟨hc, rfl, h1, h2, hb⟩
 have NB1 : Hid (Below w.heap.size w W1) := NB.out.trans (hb.mono NB.out.size)
 have NS := TW.hide (blk_keep N1.out hb)
 clear hb NB N1 s0 s1 s2 s3 s4 HRd
 by_cases he : ve = 0
 ·obtain rfl := h1 he
  obtain ⟨ho, hn, hg⟩ := HOk.out he
  have NB2 : Hid (Below w.heap.size w ((W1.alloc (.cells #[.slice none 0 0, .slice none 0 0, .int .i64 0, .int .i64 0, .int .i64 0, .slice none 0 0, .int .i64 0] 57)).setRow W1.heap.size #[.slice pa s.progs.length pc, .slice ra s.rooms.length rc, .int .i64 s.groups, .int .i64 s.locks, .int .i64 s.cells, .slice la l.length lc, .int .i64 (Tr.rnC l : Int)])) := below_setRow (NB1.out.alloc NB1.out.size _) NB1.out.size
  have hA_ : Below W1.heap.size W1 ((W1.alloc (.cells #[.slice none 0 0, .slice none 0 0, .int .i64 0, .int .i64 0, .int .i64 0, .slice none 0 0, .int .i64 0] 57)).setRow W1.heap.size #[.slice pa s.progs.length pc, .slice ra s.rooms.length rc, .int .i64 s.groups, .int .i64 s.locks, .int .i64 s.cells, .slice la l.length lc, .int .i64 (Tr.rnC l : Int)]) := below_setRow ((Below.refl _ _).alloc (Nat.le_refl _) _) (Nat.le_refl _)
  have NS2 := TW.hide (blk_keep NS.out hA_)
  have N2 : Hid (((W1.alloc (.cells #[.slice none 0 0, .slice none 0 0, .int .i64 0, .int .i64 0, .int .i64 0, .slice none 0 0, .int .i64 0] 57)).setRow W1.heap.size #[.slice pa s.progs.length pc, .slice ra s.rooms.length rc, .int .i64 s.groups, .int .i64 s.locks, .int .i64 s.cells, .slice la l.length lc, .int .i64 (Tr.rnC l : Int)]).heap[W1.heap.size]? = some (.cells #[.slice pa s.progs.length pc, .slice ra s.rooms.length rc, .int .i64 s.groups, .int .i64 s.locks, .int .i64 s.cells, .slice la l.length lc, .int .i64 (Tr.rnC l : Int)] 57 (0, 0))) := setRow_heap _ _ _ _ _ _ (heap_alloc_new W1 _)
  clear hA_ NS
  have HEd : Hid (∀ W, Below w.heap.size w W → Calls Try.prog 20 #[.agg #[.slice pa s.progs.length pc, .slice ra s.rooms.length rc, .int .i64 s.groups, .int .i64 s.locks, .int .i64 s.cells, .slice la l.length lc, .int .i64 (Tr.rnC l : Int)]] W (fun e w' => ∃ v ln E, e = .returned v ∧ (∀ x, x ∈ ln ↔ x ∈ Tr.edF s l l.length) ∧ Ord E ∧ (∀ x, x ∈ E ↔ x ∈ ln ++ (jnA l l.length).take 65537) ∧ w'.ownsRow W.heap.size 35 2 v E.length (edC E) ∧ Below W.heap.size W w')) := fun W hW => pedges s pa pc ra rc la lc l W (HSw.out.below hW) (HEw.out.below hW) ho hg hn
  have HAl : Hid (∀ ln E : List Eg2, (∀ x, x ∈ ln ↔ x ∈ Tr.edF s l l.length) → Ord E → (∀ x, x ∈ E ↔ x ∈ ln ++ (jnA l l.length).take 65537) → (E.length ≤ 65536 → E = egA s l l.length) ∧ (65536 < E.length ↔ 65536 < (egA s l l.length).length)) := fun ln E q1 q2 q3 => ed_all hg ho q1 q2 q3
  have HPa' := TW.hide (HPa.out he)
  have HPo' := TW.hide (HPo.out he)
  subst he
  clear h1 h2 ho hn hg HOk HPe HPa HPo HEw HSw
  go_wp2_with (first | (refine wpList_store_row (by rfl) 57 _ _ (by rfl) W1.heap.size #[.slice pa s.progs.length pc, .slice ra s.rooms.length rc, .int .i64 s.groups, .int .i64 s.locks, .int .i64 s.cells, .slice la l.length lc, .int .i64 (Tr.rnC l : Int)] (by rfl) (by rfl) 57 _ (heap_alloc_new W1 _) (by kernel_rfl) (by rfl) (by simp [Value.oneCell']) ?_; generalize World.setRow _ _ _ = X2 at *; generalize W1.heap.size = g2 at *; obtain ⟨q0, q1, q2, q3, q4, q5, q6⟩ := cellsY7 N2.out; obtain ⟨r0, r1, r2, r3, r4⟩ := cellsY5 NS2.out) | fail)
  refine (HEd.out X2 NB2.out).mono ?_
  rintro e3 W3 ⟨v3, ln, E, rfl, q1, q2, q3, ho3, hb⟩
  obtain ⟨a1, a2⟩ := HAl.out ln E q1 q2 q3
  obtain ⟨ea, ec, rfl⟩ := own_openE ho3
  have NB3 : Hid (Below w.heap.size w W3) := NB2.out.trans (hb.mono NB2.out.size)
  by_cases hbig : 65536 < E.length
  ·have kb : (65536 : Int) < (E.length : Int) := by omega
   have HR := TW.hide (HPa'.out (a2.1 hbig) W3 NB3.out)
   clear hbig a1 a2 q1 q2 q3 ho3 hb q0 q4 q5 q6 r0 r1 r2 r3 r4
   generalize E.length = EL at *
   go_wp2
   first | exact HR.out | exact ⟨rfl, HR.out⟩
  ·have kb : ((65536 : Int) < (E.length : Int)) = False := by simp; omega
   have HR := TW.hide (HPo'.out (fun h => hbig (a2.2 h)) W3 _ (by rw [← a1 (by omega)]; exact own_baseL ho3 NB2.out.size) NB3.out)
   clear hbig a1 a2 q1 q2 q3 ho3 hb q0 q4 q5 q6 r0 r1 r2 r3 r4
   generalize E.length = EL at *
   go_wp2
   first | exact HR.out | exact ⟨rfl, HR.out⟩
 ·obtain rfl := h2 he
  have NB2 : Hid (Below w.heap.size w ((W1.alloc (.cells #[.slice none 0 0, .slice none 0 0, .int .i64 0, .int .i64 0, .int .i64 0, .slice none 0 0, .int .i64 0] 57)).setRow W1.heap.size #[.slice none 0 0, .slice none 0 0, .int .i64 0, .int .i64 0, .int .i64 0, .slice none 0 0, .int .i64 0])) := below_setRow (NB1.out.alloc NB1.out.size _) NB1.out.size
  have hA_ : Below W1.heap.size W1 ((W1.alloc (.cells #[.slice none 0 0, .slice none 0 0, .int .i64 0, .int .i64 0, .int .i64 0, .slice none 0 0, .int .i64 0] 57)).setRow W1.heap.size #[.slice none 0 0, .slice none 0 0, .int .i64 0, .int .i64 0, .int .i64 0, .slice none 0 0, .int .i64 0]) := below_setRow ((Below.refl _ _).alloc (Nat.le_refl _) _) (Nat.le_refl _)
  have NS2 := TW.hide (blk_keep NS.out hA_)
  have N2 : Hid (((W1.alloc (.cells #[.slice none 0 0, .slice none 0 0, .int .i64 0, .int .i64 0, .int .i64 0, .slice none 0 0, .int .i64 0] 57)).setRow W1.heap.size #[.slice none 0 0, .slice none 0 0, .int .i64 0, .int .i64 0, .int .i64 0, .slice none 0 0, .int .i64 0]).heap[W1.heap.size]? = some (.cells #[.slice none 0 0, .slice none 0 0, .int .i64 0, .int .i64 0, .int .i64 0, .slice none 0 0, .int .i64 0] 57 (0, 0))) := setRow_heap _ _ _ _ _ _ (heap_alloc_new W1 _)
  clear hA_ NS
  have HPe' := TW.hide (HPe.out he)
  have kv : (ve != 0) = true := by simp [he]
  clear he h1 h2 HOk HPe HPa HPo HEw HSw
  go_wp2_with (first | (refine wpList_store_row (by rfl) 57 _ _ (by rfl) W1.heap.size #[.slice none 0 0, .slice none 0 0, .int .i64 0, .int .i64 0, .int .i64 0, .slice none 0 0, .int .i64 0] (by rfl) (by rfl) 57 _ (heap_alloc_new W1 _) (by kernel_rfl) (by rfl) (by simp [Value.oneCell']) ?_; generalize World.setRow _ _ _ = X2 at *; generalize W1.heap.size = g2 at *; obtain ⟨q0, q1, q2, q3, q4, q5, q6⟩ := cellsY7 N2.out; obtain ⟨r0, r1, r2, r3, r4⟩ := cellsY5 NS2.out) | fail)
  have HR := TW.hide (HPe'.out X2 NB2.out)
  first | exact HR.out | exact ⟨rfl, HR.out⟩
end LW
end Go.Proofs.Ythcndgnpmefefaa
