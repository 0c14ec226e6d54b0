/-
 An access is noted.
-/
import Derived.Test.YtdjanbojhblijaaGreatRcAag
import Derived.Test.YtdjanbojhblijaaGreatCkBg
namespace Go.Proofs.YtdjanbojhblijaaGreat
open List renaming setIfInBounds_toArray → lpA, set_cons_zero → lpZ, set_cons_succ → lpS, getElem_toArray → lgT, getElem_cons_zero → lgZ, getElem_cons_succ → lgS
open Go.RowKit
set_option linter.unusedVariables false
set_option linter.unusedSimpArgs false
namespace LW
open Mc
theorem AM.ends {W W5 Z : World} {B C M : Nat} {top : Bool → Value} {mid : Bool → Nat → Value} {inn : Bool → Nat → Nat → Value} {cs : Bool → Nat → Nat → List Int} (h : AM W B C M top mid inn inn cs) (s : Bool) (c p : Nat) (hc : c < C) (hp : p < M) {b cap : Nat} (hb : mid s c = .slice (some ⟨b, 0, none⟩) M cap) (x : Int) (hZ : Below W.heap.size W Z) (u : Value) (ho : W5.ownsRow B 3 1 u ((cs s c p).length + 1) ((cs s c p).map (Value.int .i64) ++ [.int .i64 x])) (hg : Z.grownBy W5 (inn s c p).ownBlock) (hat : u.ownBlock = (inn s c p).ownBlock ∨ u.ownBlock = some Z.heap.size) :
  (∃ ua uc, u = .slice ua ((cs s c p).length + 1) uc) ∧ (∀ (q : Nat) (cs' : Array Value) (t : TypeId) (fr : Nat × Nat), Z.heap[q]? = some (.cells cs' t fr) → 3 ≠ t → 23 ≠ t → W5.heap[q]? = some (.cells cs' t fr) ∧ (W5.setCell ⟨b, p, none⟩ u).heap[q]? = some (.cells cs' t fr)) ∧ W5.frozen? ⟨b, p, none⟩ = false ∧ (∃ z, W5.cell? ⟨b, p, none⟩ = some z) ∧ AM (W5.setCell ⟨b, p, none⟩ u) B C M top mid (up3 inn s c p u) (up3 inn s c p u) (up3 cs s c p (cs s c p ++ [x])) ∧ (∀ W0, Below B W0 Z → B ≤ Z.heap.size → Below B W0 (W5.setCell ⟨b, p, none⟩ u)) ∧ AM W5 B C M top mid inn (up3 inn s c p u) (up3 cs s c p (cs s c p ++ [x])) := by
 have hr : Z.ownsRow B 3 1 (inn s c p) (cs s c p).length ((cs s c p).map (Value.int .i64)) := (h.below hZ).fam.own (s, some (c, some p))
 have h1 := (h.below hZ).appI s c p x u ho hg hat
 obtain ⟨b', cap', e, hB, hcl, hf⟩ := h1.midAt s c p hc hp
 rw [hb] at e
 injection e with e1 _ _
 injection e1 with e1
 injection e1 with e1
 subst e1
 have hh : W5.ownsRow B 23 1 (mid s c) (if c < C then M else 0) (rwI (if c < C then M else 0) (inn s c)) := h1.fam.own (s, some (c, none))
 refine ⟨own_openE ho, fun q cs' t fr hq h2 h3 => ?_, hf, ⟨_, hcl⟩, h1.setI s c p hc u hb, fun W0 h2 h3 => (h2.grown hg h3 (fun k hk => own_blkI hr k hk)).setCell (p := ⟨b, p, none⟩) hB u, h1⟩
 have h4 : W5.heap[q]? = some (.cells cs' t fr) := by
  rw [hg.block q (blk_lt hq) (fun e => own_neB hr hq h2 e.symm)]
  exact hq
 refine ⟨h4, ?_⟩
 rw [Below.heap_setCell _ _ _ _ (fun e => own_neB hh h4 h3 (by rw [hb, e]; rfl))]
 exact h4
/-- What a noted access leaves. -/
def csA (cs : Bool → Nat → Nat → List Int) (s : Bool) (c : Nat) (first : Int) (M : Nat) (who : Int) (at_ : Int) : Bool → Nat → Nat → List Int := if 0 ≤ who - first ∧ who - first < (M : Int) then up3 cs s c (who - first).toNat (cs s c (who - first).toNat ++ [at_]) else cs
set_option maxRecDepth 100000 in
set_option maxHeartbeats 40000000 in
theorem paddA (B C M f : Nat) (top : Bool → Value) (mid : Bool → Nat → Value) (inn : Bool → Nat → Nat → Value) (cs : Bool → Nat → Nat → List Int) (s : Bool) (c at_ : Nat) (who op va2 : Int) (sh : Bool) (W : World) (hm : AM W B C M top mid inn inn cs) (hc : c < C) (hB : B ≤ W.heap.size) (hl : ∀ p, (cs s c p).length ≤ 40000) (hw0 : 0 ≤ who) (hw1 : who ≤ 1000000) (hf1 : f ≤ 1000000) (hM : M ≤ 1000000) (hC6 : C ≤ 1000000) (hat : at_ ≤ 40000) :
  Calls Tryz.prog 43 #[.agg #[.int .i64 (f : Int), .int .i64 (M : Int), top s], .int .i64 (at_ : Int), .agg #[.int .i64 who, .int .i64 op, .int .i64 (c : Int), .int .i64 va2, .bool sh]] W (fun e w' => ∃ inn', e = .returned (.tuple #[]) ∧ AM w' B C M top mid inn' inn' (csA cs s c (f : Int) M who (at_ : Int)) ∧ Below B W w' ∧ ∀ (q : Nat) (cs' : Array Value) (t : TypeId) (fr : Nat × Nat), W.heap[q]? = some (.cells cs' t fr) → 3 ≠ t → 23 ≠ t → w'.heap[q]? = some (.cells cs' t fr)) := by
 obtain ⟨POST, hP⟩ : ∃ P : Ending → World → Prop, P = fun e w' => ∃ inn', e = .returned (.tuple #[]) ∧ AM w' B C M top mid inn' inn' (csA cs s c (f : Int) M who (at_ : Int)) ∧ Below B W w' ∧ ∀ (q : Nat) (cs' : Array Value) (t : TypeId) (fr : Nat × Nat), W.heap[q]? = some (.cells cs' t fr) → 3 ≠ t → 23 ≠ t → w'.heap[q]? = some (.cells cs' t fr) := ⟨_, rfl⟩
 have HPo : Hid (∀ inn' w', AM w' B C M top mid inn' inn' (csA cs s c (f : Int) M who (at_ : Int)) → Below B W w' → (∀ (q : Nat) (cs' : Array Value) (t : TypeId) (fr : Nat × Nat), W.heap[q]? = some (.cells cs' t fr) → 3 ≠ t → 23 ≠ t → w'.heap[q]? = some (.cells cs' t fr)) → POST (.returned (.tuple #[])) w') := fun inn' w' q1 q2 q3 => by rw [hP]; exact ⟨inn', rfl, q1, q2, q3⟩
 rw [← hP]
 clear hP
 obtain ⟨tb, tcap, et, htB, _, _⟩ := hm.topAt s c hc
 have HEt := TW.hide et
 rw [et]
 clear et
 have N1 : Hid (((W.alloc (.cells #[.int .i64 (f : Int), .int .i64 (M : Int), .slice (some ⟨tb, 0, none⟩) C tcap] 89)).alloc (.cells #[.int .i64 who, .int .i64 op, .int .i64 (c : Int), .int .i64 va2, .bool sh] 35)).heap[W.heap.size]? = some (.cells #[.int .i64 (f : Int), .int .i64 (M : Int), .slice (some ⟨tb, 0, none⟩) C tcap] 89 (0, 0))) := blk_alloc (heap_alloc_new W _)
 have N2 : Hid (((W.alloc (.cells #[.int .i64 (f : Int), .int .i64 (M : Int), .slice (some ⟨tb, 0, none⟩) C tcap] 89)).alloc (.cells #[.int .i64 who, .int .i64 op, .int .i64 (c : Int), .int .i64 va2, .bool sh] 35)).heap[W.heap.size + 1]? = some (.cells #[.int .i64 who, .int .i64 op, .int .i64 (c : Int), .int .i64 va2, .bool sh] 35 (0, 0))) := by
  have h1 := heap_alloc_new (W.alloc (.cells #[.int .i64 (f : Int), .int .i64 (M : Int), .slice (some ⟨tb, 0, none⟩) C tcap] 89)) (.cells #[.int .i64 who, .int .i64 op, .int .i64 (c : Int), .int .i64 va2, .bool sh] 35)
  have h2 : (W.alloc (.cells #[.int .i64 (f : Int), .int .i64 (M : Int), .slice (some ⟨tb, 0, none⟩) C tcap] 89)).heap.size = W.heap.size + 1 := by simp
  rw [h2] at h1
  exact h1
 have NB : Hid (Below W.heap.size W ((W.alloc (.cells #[.int .i64 (f : Int), .int .i64 (M : Int), .slice (some ⟨tb, 0, none⟩) C tcap] 89)).alloc (.cells #[.int .i64 who, .int .i64 op, .int .i64 (c : Int), .int .i64 va2, .bool sh] 35))) := ((Below.refl _ _).alloc (Nat.le_refl _) _).alloc (by simp) _
 have HM := TW.hide (hm.below NB.out)
 have HCc : Hid (c < C) := hc
 have HBw : Hid (B ≤ W.heap.size) := hB
 have HCl := TW.hide hl
 have qc0 : (0 : Int) ≤ (c : Int) := by omega
 have qc1 : (c : Int) < (C : Int) := by omega
 clear hm hc hB hl
 go_enter Tryz.func43, Tryz.ntmps43
 refine wp_seq_k fun K hK => ?_
 have HK := TW.hide hK
 clear hK
 go_wp2
 refine HK.out _ _ ?_
 clear HK
 generalize World.alloc _ _ = X at *
 obtain ⟨g2, hg2⟩ : ∃ g, W.heap.size + 1 = g := ⟨_, rfl⟩
 rw [hg2] at N2 ⊢
 have HG2 := TW.hide hg2
 clear hg2
 obtain ⟨a0, a1, a2⟩ := cellsR3 N1.out
 obtain ⟨z0, z1, z2, z3, z4⟩ := cellsY5 N2.out
 obtain ⟨dd, hdd⟩ : ∃ dd : Int, who - (f : Int) = dd := ⟨_, rfl⟩
 have HPl : Hid (∀ W, Calls Tryz.prog 49 #[.agg #[.int .i64 (f : Int), .int .i64 (M : Int)], .int .i64 who] W fun e w' => e = .returned (.tuple #[.int .i64 dd, .bool (decide (0 ≤ dd ∧ dd < (M : Int)))]) ∧ Below W.heap.size W w') := fun W => by
  have := pplace f M who W hw0 hw1 hf1
  rw [hdd] at this
  exact this
 refine wp_seq_k fun K hK => ?_
 have HK := TW.hide hK
 clear hK
 go_wp2_with fail
 refine (HPl.out _).mono ?_
 rintro e4 W4 ⟨rfl, hb4⟩
 have HM4 := TW.hide (HM.out.below hb4)
 have N14 := TW.hide (blk_keep N1.out hb4)
 have N24 := TW.hide (blk_keep N2.out hb4)
 have NB4 : Hid (Below W.heap.size W W4) := NB.out.trans (hb4.mono NB.out.size)
 clear HPl HM N1 N2 NB hb4 a0 a1 a2 z0 z1 z2 z3 z4
 have HM := HM4
 have N1 := N14
 have N2 := N24
 have NB := NB4
 clear HM4 N14 N24 NB4
 by_cases hok : 0 ≤ dd ∧ dd < (M : Int)
 ·rw [decide_eq_true hok]
  obtain ⟨p, rfl⟩ : ∃ p : Nat, dd = (p : Int) := ⟨dd.toNat, by omega⟩
  have hpm : p < M := by omega
  have qp0 : (0 : Int) ≤ (p : Int) := by omega
  have qp1 : (p : Int) < (M : Int) := by omega
  go_wp2
  refine HK.out _ _ ?_
  clear HK
  refine wp_seq_k fun K hK => ?_
  have HK := TW.hide hK
  clear hK
  go_wp2
  refine HK.out _ _ ?_
  clear HK
  obtain ⟨_, _, e1, _, y1, _⟩ := HM.out.topAt s c HCc.out
  rw [HEt.out] at e1
  injection e1 with e11 _ e13
  injection e11 with e11
  injection e11 with e11
  subst e11 e13
  obtain ⟨mb, mcap, em, hmB, y2, _⟩ := HM.out.midAt s c p HCc.out hpm
  obtain ⟨ra, rcc, er, _⟩ := HM.out.innIs s c p
  rw [em] at y1
  rw [er] at y2
  have HRo : Hid (W4.ownsRow B 3 1 (.slice ra (cs s c p).length rcc) (cs s c p).length ((cs s c p).map (Value.int .i64))) := by
   have h9 : W4.ownsRow B 3 1 (inn s c p) (cs s c p).length ((cs s c p).map (Value.int .i64)) := HM.out.fam.own (s, some (c, some p))
   rw [er] at h9
   exact h9
  have HEnd : Hid (∀ Z u W5, Below W4.heap.size W4 Z → (fun Z => (Z.heap[W.heap.size]? = some (.cells #[.int .i64 (f : Int), .int .i64 (M : Int), .slice (some ⟨tb, 0, none⟩) C tcap] 89 (0, 0)) ∧ Z.heap[g2]? = some (.cells #[.int .i64 who, .int .i64 op, .int .i64 (c : Int), .int .i64 va2, .bool sh] 35 (0, 0))) ∧ Z.cell? ⟨tb, c, none⟩ = some (.slice (some ⟨mb, 0, none⟩) M mcap)) Z → W5.ownsRow B 3 1 u ((cs s c p).length + 1) ((cs s c p).map (Value.int .i64) ++ [.int .i64 (at_ : Int)]) → Z.grownBy W5 (Value.slice ra (cs s c p).length rcc).ownBlock → (u.ownBlock = (Value.slice ra (cs s c p).length rcc).ownBlock ∨ u.ownBlock = some Z.heap.size) → (∃ ua uc, u = .slice ua ((cs s c p).length + 1) uc) ∧ ((fun Z => (Z.heap[W.heap.size]? = some (.cells #[.int .i64 (f : Int), .int .i64 (M : Int), .slice (some ⟨tb, 0, none⟩) C tcap] 89 (0, 0)) ∧ Z.heap[g2]? = some (.cells #[.int .i64 who, .int .i64 op, .int .i64 (c : Int), .int .i64 va2, .bool sh] 35 (0, 0))) ∧ Z.cell? ⟨tb, c, none⟩ = some (.slice (some ⟨mb, 0, none⟩) M mcap)) W5 ∧ (fun Z => (Z.heap[W.heap.size]? = some (.cells #[.int .i64 (f : Int), .int .i64 (M : Int), .slice (some ⟨tb, 0, none⟩) C tcap] 89 (0, 0)) ∧ Z.heap[g2]? = some (.cells #[.int .i64 who, .int .i64 op, .int .i64 (c : Int), .int .i64 va2, .bool sh] 35 (0, 0))) ∧ Z.cell? ⟨tb, c, none⟩ = some (.slice (some ⟨mb, 0, none⟩) M mcap)) (W5.setCell ⟨mb, p, none⟩ u)) ∧ W5.frozen? ⟨mb, p, none⟩ = false ∧ (∃ z, W5.cell? ⟨mb, p, none⟩ = some z) ∧ (AM (W5.setCell ⟨mb, p, none⟩ u) B C M top mid (up3 inn s c p u) (up3 inn s c p u) (up3 cs s c p (cs s c p ++ [(at_ : Int)])) ∧ Below B W (W5.setCell ⟨mb, p, none⟩ u) ∧ (∀ (q : Nat) (cs' : Array Value) (t : TypeId) (fr : Nat × Nat), W.heap[q]? = some (.cells cs' t fr) → 3 ≠ t → 23 ≠ t → (W5.setCell ⟨mb, p, none⟩ u).heap[q]? = some (.cells cs' t fr)))) := fun Z u W5 hZ hZg h1 h2 h3 => by
   rw [← er] at h2 h3
   obtain ⟨k1, k2, k3, k4, k5, k6, k7⟩ := HM.out.ends s c p HCc.out hpm em (at_ : Int) hZ u h1 h2 h3
   have ht5 : W5.cell? ⟨tb, c, none⟩ = some (.slice (some ⟨mb, 0, none⟩) M mcap) := by
    obtain ⟨_, _, e1, _, y9, _⟩ := k7.topAt s c HCc.out
    rw [HEt.out] at e1
    injection e1 with e11 _ _
    injection e11 with e11
    injection e11 with e11
    subst e11
    rw [y9, em]
   have ht6 : (W5.setCell ⟨mb, p, none⟩ u).cell? ⟨tb, c, none⟩ = some (.slice (some ⟨mb, 0, none⟩) M mcap) := by
    obtain ⟨_, _, e1, _, y9, _⟩ := k5.topAt s c HCc.out
    rw [HEt.out] at e1
    injection e1 with e11 _ _
    injection e11 with e11
    injection e11 with e11
    subst e11
    rw [y9, em]
   refine ⟨k1, ⟨⟨⟨(k2 _ _ _ _ hZg.1.1 (by decide) (by decide)).1, (k2 _ _ _ _ hZg.1.2 (by decide) (by decide)).1⟩, ht5⟩, ⟨(k2 _ _ _ _ hZg.1.1 (by decide) (by decide)).2, (k2 _ _ _ _ hZg.1.2 (by decide) (by decide)).2⟩, ht6⟩, k3, k4, k5, ?_, fun q cs' t fr q1 q2 q3 => (k2 q cs' t fr (blk_keep q1 (NB.out.trans (hZ.mono NB.out.size))) q2 q3).2⟩
   have hb : Below W.heap.size W Z := NB.out.trans (hZ.mono NB.out.size)
   exact k6 W (hb.mono HBw.out) (Nat.le_trans HBw.out hb.size)
  obtain ⟨rl, hrl⟩ : ∃ rl, (cs s c p).length = rl := ⟨_, rfl⟩
  have hrl4 : rl ≤ 40000 := by have := HCl.out p; omega
  have hcs : csA cs s c (f : Int) M who (at_ : Int) = up3 cs s c p (cs s c p ++ [(at_ : Int)]) := by
   unfold csA
   rw [if_pos (by rw [hdd]; exact hok), hdd]
   rfl
  have HCs := TW.hide hcs
  rw [hrl] at HRo HEnd y2
  have HSo : Hid (B ≤ W4.heap.size) := Nat.le_trans HBw.out NB.out.size
  clear hcs hok hdd HM em er hpm hrl
  go_wp2
  refine wp_region_noPanic ?_
  refine RG.wp_region_L (fun Z => Below W4.heap.size W4 Z) (fun Z => (Z.heap[W.heap.size]? = some (.cells #[.int .i64 (f : Int), .int .i64 (M : Int), .slice (some ⟨tb, 0, none⟩) C tcap] 89 (0, 0)) ∧ Z.heap[g2]? = some (.cells #[.int .i64 who, .int .i64 op, .int .i64 (c : Int), .int .i64 va2, .bool sh] 35 (0, 0))) ∧ Z.cell? ⟨tb, c, none⟩ = some (.slice (some ⟨mb, 0, none⟩) M mcap)) [18, 20] (by kernel_rfl) ?_
  refine RG.wpL_any fun Yz44 hY => ?_
  have HBz44 : Hid (Below W4.heap.size W4 Yz44) := by rw [hY]; exact below_drewN (Below.refl _ _) 1
  clear hY
  have HTY := TW.hide (And.intro (And.intro (blk_keep N1.out HBz44.out) (blk_keep N2.out HBz44.out)) (keepC HBz44.out y1))
  refine RG.wpL_take (fuel := 4) (a' := ?Az44) [0, 1, 2, 3, 4, 5, 6, 7, 8, 9, 10, 11, 12, 13, 14, 15, 16] (by kernel_rfl) (by kernel_rfl) (fun _ _ _ _ _ h => h) HTY.out (fun _ => HBz44.out) ?rz44 ?_
  case rz44 =>
   refine RG.RunsIf.weak (v := ?_) (by rfl) (by rfl) (fun Z hT => ?_) ?_
   rotate_left
   ·go_simp
    rfl
   simp only [Act.put, lpA, lpZ, lpS, lgT, lgZ, lgS]
   refine RG.RunsIf.weak (v := .slice (some ⟨tb, 0, none⟩) C tcap) (by rfl) (by rfl) (fun Z hT => ?_) ?_
   ·obtain ⟨a0, a1, a2⟩ := cellsR3 hT.1.1; obtain ⟨z0, z1, z2, z3, z4⟩ := cellsY5 hT.1.2; have y1 := hT.2
    go_simp
   simp only [Act.put, lpA, lpZ, lpS, lgT, lgZ, lgS]
   refine RG.RunsIf.weak (v := ?_) (by rfl) (by rfl) (fun Z hT => ?_) ?_
   rotate_left
   ·go_simp
    rfl
   simp only [Act.put, lpA, lpZ, lpS, lgT, lgZ, lgS]
   refine RG.RunsIf.weak (v := .int .i64 (c : Int)) (by rfl) (by rfl) (fun Z hT => ?_) ?_
   ·obtain ⟨a0, a1, a2⟩ := cellsR3 hT.1.1; obtain ⟨z0, z1, z2, z3, z4⟩ := cellsY5 hT.1.2; have y1 := hT.2
    go_simp
   simp only [Act.put, lpA, lpZ, lpS, lgT, lgZ, lgS]
   refine RG.RunsIf.weak (v := ?_) (by rfl) (by rfl) (fun Z hT => ?_) ?_
   rotate_left
   ·go_simp
    rfl
   simp only [Act.put, lpA, lpZ, lpS, lgT, lgZ, lgS]
   refine RG.RunsIf.weak (v := .slice (some ⟨mb, 0, none⟩) M mcap) (by rfl) (by rfl) (fun Z hT => ?_) ?_
   ·obtain ⟨a0, a1, a2⟩ := cellsR3 hT.1.1; obtain ⟨z0, z1, z2, z3, z4⟩ := cellsY5 hT.1.2; have y1 := hT.2
    go_simp
   simp only [Act.put, lpA, lpZ, lpS, lgT, lgZ, lgS]
   iterate 2
    refine RG.RunsIf.weak (v := ?_) (by rfl) (by rfl) (fun Z hT => ?_) ?_
    rotate_left
    ·go_simp
     rfl
    simp only [Act.put, lpA, lpZ, lpS, lgT, lgZ, lgS]
   refine RG.RunsIf.weak (v := .slice (some ⟨tb, 0, none⟩) C tcap) (by rfl) (by rfl) (fun Z hT => ?_) ?_
   ·obtain ⟨a0, a1, a2⟩ := cellsR3 hT.1.1; obtain ⟨z0, z1, z2, z3, z4⟩ := cellsY5 hT.1.2; have y1 := hT.2
    go_simp
   simp only [Act.put, lpA, lpZ, lpS, lgT, lgZ, lgS]
   refine RG.RunsIf.weak (v := ?_) (by rfl) (by rfl) (fun Z hT => ?_) ?_
   rotate_left
   ·go_simp
    rfl
   simp only [Act.put, lpA, lpZ, lpS, lgT, lgZ, lgS]
   refine RG.RunsIf.weak (v := .int .i64 (c : Int)) (by rfl) (by rfl) (fun Z hT => ?_) ?_
   ·obtain ⟨a0, a1, a2⟩ := cellsR3 hT.1.1; obtain ⟨z0, z1, z2, z3, z4⟩ := cellsY5 hT.1.2; have y1 := hT.2
    go_simp
   simp only [Act.put, lpA, lpZ, lpS, lgT, lgZ, lgS]
   refine RG.RunsIf.weak (v := ?_) (by rfl) (by rfl) (fun Z hT => ?_) ?_
   rotate_left
   ·go_simp
    rfl
   simp only [Act.put, lpA, lpZ, lpS, lgT, lgZ, lgS]
   refine RG.RunsIf.weak (v := .slice (some ⟨mb, 0, none⟩) M mcap) (by rfl) (by rfl) (fun Z hT => ?_) ?_
   ·obtain ⟨a0, a1, a2⟩ := cellsR3 hT.1.1; obtain ⟨z0, z1, z2, z3, z4⟩ := cellsY5 hT.1.2; have y1 := hT.2
    go_simp
   simp only [Act.put, lpA, lpZ, lpS, lgT, lgZ, lgS]
   iterate 2
    refine RG.RunsIf.weak (v := ?_) (by rfl) (by rfl) (fun Z hT => ?_) ?_
    rotate_left
    ·go_simp
     rfl
    simp only [Act.put, lpA, lpZ, lpS, lgT, lgZ, lgS]
   refine RG.RunsIf.strong (v := .slice ra rl rcc) (by rfl) (by kernel_rfl) (by rfl) (fun Z hT hS => ?_) ?_
   ·obtain ⟨a0, a1, a2⟩ := cellsR3 (blk_keep N1.out hS); obtain ⟨z0, z1, z2, z3, z4⟩ := cellsY5 (blk_keep N2.out hS); have y1 := keepC hS y1; have y2 := keepC hS y2
    go_simp
   simp only [Act.put, lpA, lpZ, lpS, lgT, lgZ, lgS]
   refine RG.RunsIf.weak (v := ?_) (by rfl) (by rfl) (fun Z hT => ?_) ?_
   rotate_left
   ·go_simp
    rfl
   simp only [Act.put, lpA, lpZ, lpS, lgT, lgZ, lgS]
   exact RG.RunsIf.nil
  refine RG.wpL_step (i := 17) (by kernel_rfl) (by rfl) (by rfl) (fun KX hK => ?_)
  have HK := TW.hide hK
  clear hK
  go_simp
  have hAb : Below W4.heap.size W4 (Yz44.alloc (.cells #[.int .i64 (at_ : Int)] 3)) := HBz44.out.alloc HBz44.out.size _
  have HAb := TW.hide hAb
  have HQc : Hid (∀ j u, ([.int .i64 (at_ : Int)] : List Value)[j]? = some u → (Yz44.alloc (.cells #[.int .i64 (at_ : Int)] 3)).cell? ((⟨Yz44.heap.size, 0, none⟩ : Addr).add j) = some u) := cell_one_new _ _ _
  have HTb := TW.hide (And.intro (And.intro (blk_keep N1.out HAb.out) (blk_keep N2.out HAb.out)) (keepC HAb.out y1))
  have HRw := TW.hide (own_belowI HRo.out HAb.out)
  refine HK.out _ _ HTb.out (fun _ => HAb.out) ?_
  clear HK KX hAb HBz44 HTY
  generalize Yz44.alloc _ = Yb at *
  generalize Yz44.heap.size = gq at *
  try simp only [Act.put, lpA, lpZ, lpS, lgT, lgZ, lgS]
  refine RG.wpL_late (i := 18) (by kernel_rfl) (by rfl) (by rfl) (by kernel_rfl) (fun KX hK => ?_)
  have HK := TW.hide hK
  clear hK
  obtain ⟨i3, hi3, hz30, hz31, hz32⟩ := info_parts' intinfo
  refine wp_append_at _ _ 23 (by rfl) B 3 i3 _ 1 8 Tryz.underlying23 hi3 hz30 hz31 hz32 rfl (by decide) (.slice ra rl rcc) rl ((cs s c p).map (Value.int .i64)) (by rfl) HRw.out ⟨gq, 0, none⟩ 1 1 [.int .i64 (at_ : Int)] (by rfl) rfl HQc.out (by simp [Value.oneCell']) (by unfold maxLen; omega) (by omega) (Nat.le_trans HSo.out HAb.out.size) ?_
  intro uu W5 hown5 hgr5 hat5
  obtain ⟨⟨ua, uc, rfl⟩, hT5, fz, ⟨zz, cz⟩, hkm⟩ := HEnd.out Yb uu W5 HAb.out HTb.out hown5 hgr5 hat5
  have HKM := TW.hide hkm
  have HT5 := TW.hide hT5
  clear hown5 hgr5 hat5 hkm hT5 HQc HRw hi3 hz30 hz31 hz32 HTb HAb
  refine HK.out _ _ HT5.out.1 ?_
  clear HK KX
  try simp only [Act.put, lpA, lpZ, lpS, lgT, lgZ, lgS]
  refine RG.wpL_take (fuel := 1) (a' := ?Bz44) [19] (by kernel_rfl) (by kernel_rfl) (fun _ _ _ _ _ h => h) HT5.out.1 (fun h => by cases (show false = true from h)) ?sz44 ?_
  case sz44 =>
   refine RG.RunsIf.weak (v := ?_) (by rfl) (by rfl) (fun Z hT => ?_) ?_
   rotate_left
   ·go_simp
    rfl
   simp only [Act.put, lpA, lpZ, lpS, lgT, lgZ, lgS]
   exact RG.RunsIf.nil
  refine RG.wpL_late (i := 20) (by kernel_rfl) (by rfl) (by rfl) (by kernel_rfl) (fun KX hK => ?_)
  have HK := TW.hide hK
  clear hK
  go_simp
  refine HK.out _ _ HT5.out.2 ?_
  clear HK KX cz fz HT5
  refine RG.wpL_done (by kernel_rfl) ?_ _
  refine NoPanic.normal ?_
  obtain ⟨q1, q2, q3⟩ := HKM.out
  rw [← HCs.out] at q1
  have HR := TW.hide (HPo.out _ _ q1 q2 q3)
  go_end0
  exact HR.out
 ·rw [decide_eq_false hok]
  go_wp2
  refine HK.out _ _ ?_
  clear HK
  refine wp_seq_k fun K hK => ?_
  have HK := TW.hide hK
  clear hK
  go_wp2
  refine HK.out _ _ ?_
  clear HK
  have hcs : csA cs s c (f : Int) M who (at_ : Int) = cs := by
   unfold csA
   rw [if_neg (by rw [hdd]; exact hok)]
  have HR : Hid (POST (.returned (.tuple #[])) W4) := HPo.out inn W4 (by rw [hcs]; exact HM.out) (NB.out.mono HBw.out) (fun q cs' t fr h1 _ _ => blk_keep h1 NB.out)
  go_wp2
  go_end0
  exact HR.out
end LW
end Go.Proofs.YtdjanbojhblijaaGreat
