/-
  Ck8, Ck9, Al in one.
-/
import Derived.Test.YthgmmggpclmagaaCk7
import Derived.Test.YthgmmggpclmagaaCpB
import Derived.Test.YthgmmggpclmagaaTv7
import Derived.Test.YthgmmggpclmagaaTvB
namespace Go.Proofs.Ythgmmggpclmagaa
open List renaming setIfInBounds_toArray → lpA, set_cons_zero → lpZ, set_cons_succ → lpS, getElem_toArray → lgT, getElem_cons_zero → lgZ, getElem_cons_succ → lgS
open Go.RowKit
set_option linter.unusedVariables false
set_option linter.unusedSimpArgs false
namespace LW
open Mc
/-- Is event i before event j, by the clocks? -/
def bfB (s : Syst) (l : List Ev) (i j : Nat) : Bool := decide (i ≠ j ∧ Tr.ck s l (Tr.ev l i).who i ≤ Tr.ck s l (Tr.ev l i).who j)
/-- What Before answers: the error; whether. -/
def beE (s : Syst) (l : List Ev) (i j : Int) : Int := if (Tr.vR s l).2.2 = 0 then (if (0 ≤ i ∧ i < (l.length : Int)) ∧ (0 ≤ j ∧ j < (l.length : Int)) then 0 else 1) else (Tr.vR s l).2.2
def beA (s : Syst) (l : List Ev) (i j : Int) : Bool := decide (beE s l i j = 0) && bfB s l i.toNat j.toNat
theorem cm_one {o W : World} {G n : Nat} {cl ag : Nat → List Int} {hs : List Value} {v : Oc → Value} (h : CM o W G n cl ag hs v) (j : Nat) (hj : j < n) (x : Int) (hc : cl j = [x]) : ∃ b cap b2 o2 c2, v Oc.li = .slice (some ⟨b, 0, none⟩) n cap ∧ W.cell? ⟨b, j, none⟩ = some (.slice (some ⟨b2, o2, none⟩) 1 c2) ∧ W.cell? ⟨b2, o2, none⟩ = some (.int .i64 x) := by
 obtain ⟨b, cap, e, y⟩ := h.liAt j hj
 obtain ⟨a, c, e2, h2⟩ := h.clIs j
 rw [hc] at e2 h2
 rcases h2 with h2 | ⟨b2, o2, rfl, h2⟩
 ·cases h2
 ·have := h2 0 (by simp)
  rw [Nat.add_zero] at this
  exact ⟨b, cap, b2, o2, c, e, by rw [y, e2]; rfl, this⟩
theorem own_base8 {s : Syst} {l : List Ev} {k : Nat} (hg : Tr.Gd s l l.length) (hk : k < l.length) : ∃ wn : Nat, (Tr.ev l k).who = (wn : Int) ∧ wn ≤ 512 ∧ wn < Tr.rnC l := by
 have hfit := hg k hk
 have h0 := hfit.w0
 have h1 := hfit.w1
 have h2 := Tr.rnC_le k (Nat.le_of_lt hk) (fun j hj => hg j (by omega))
 have h3 := Tr.rnC_mono l (Nat.le_of_lt hk) (Nat.le_refl _)
 rw [List.take_length] at h3
 refine ⟨(Tr.ev l k).who.toNat, ?_, ?_, ?_⟩
 ·have : 0 ≤ (Tr.ev l k).who := h0
  omega
 ·have : (Tr.ev l k).who < Tr.rnC (l.take k) := h1
  omega
 ·have : (Tr.ev l k).who < Tr.rnC (l.take k) := h1
  omega
set_option maxRecDepth 100000 in
set_option maxHeartbeats 4000000 in
theorem pbefore (s : Syst) (pa : Option Addr) (pc : Nat) (ra : Option Addr) (rc : Nat) (la : Option Addr) (lc : Nat) (l : List Ev) (i j : Nat) (w : World) (hs : SyI w s pa ra) (hl : EvI w la lc l) (ho : Ok s) (hg : Tr.Gd s l l.length) (hL : l.length ≤ 40000) (hi : i < l.length) (hj : j < l.length) :
  Calls Try.prog 15 #[.agg #[.slice pa s.progs.length pc, .slice ra s.rooms.length rc, .int .i64 s.groups, .int .i64 s.locks, .int .i64 s.cells, .slice la l.length lc, .int .i64 (Tr.rnC l : Int)], .int .i64 (i : Int), .int .i64 (j : Int)] w fun e w' => e = .returned (.bool (bfB s l i j)) ∧ Below w.heap.size w w' := by
 obtain ⟨wn, hwn, hw5, _⟩ := own_base8 hg hi
 have HLk : Hid (∀ W, Below w.heap.size w W → Calls Try.prog 27 #[.agg #[.slice pa s.progs.length pc, .slice ra s.rooms.length rc, .int .i64 s.groups, .int .i64 s.locks, .int .i64 s.cells, .slice la l.length lc, .int .i64 (Tr.rnC l : Int)]] W (LnQ W s l)) := fun W hW => plinks s pa pc ra rc la lc l W (hs.below hW) (hl.below hW) ho hg hL
 have HCl : Hid (∀ a c ed W, Below w.heap.size w W → EgR W a c ed → Ord ed → (∀ x, x ∈ ed ↔ x ∈ Tr.edF s l l.length) → Calls Try.prog 26 #[.agg #[.slice pa s.progs.length pc, .slice ra s.rooms.length rc, .int .i64 s.groups, .int .i64 s.locks, .int .i64 s.cells, .slice la l.length lc, .int .i64 (Tr.rnC l : Int)], .slice a ed.length c, .agg #[.int .i64 (wn : Int), .int .i64 1]] W (CkQ W s l wn 1)) := fun a c ed W hW h1 h2 h3 => pclocks s pa pc ra rc la lc l wn 1 a c ed W (hl.below hW) ho hg hL (by omega) (by omega) h1 h2 h3
 have HBf : Hid (bfB s l i j = decide (i ≠ j ∧ Tr.ck s l (wn : Int) i ≤ Tr.ck s l (wn : Int) j)) := by show _ = _; unfold bfB; rw [hwn]
 have HCc : Hid (∀ k, k < l.length → (if k < l.length then clL s l wn 1 k else []) = [(Tr.ck s l (wn : Int) k : Int)]) := fun k hk => by
  rw [if_pos hk]
  unfold clL
  simp [List.range_succ]
 obtain ⟨b, off, who, op, a, va, sh, hla, hev, _, _, _, _, x0, x1, x2, x3, x4⟩ := hl.get i hi
 subst hla
 obtain rfl : (wn : Int) = who := by rw [hev] at hwn; exact hwn.symm
 have hb_ : Below w.heap.size w (w.alloc (.cells #[.slice pa s.progs.length pc, .slice ra s.rooms.length rc, .int .i64 s.groups, .int .i64 s.locks, .int .i64 s.cells, .slice (some ⟨b, off, none⟩) l.length lc, .int .i64 (Tr.rnC l : Int)] 53)) := (Below.refl _ _).alloc (Nat.le_refl _) _
 have x0 := keepC hb_ x0
 have HIj := TW.hide hi
 have HJj := TW.hide hj
 have qi0 : (0 : Int) ≤ (i : Int) := by omega
 have qi1 : (i : Int) < (l.length : Int) := by omega
 have qj0 : (0 : Int) ≤ (j : Int) := by omega
 have qj1 : (j : Int) < (l.length : Int) := by omega
 clear hs hl ho hg hev hwn hb_ x1 x2 x3 x4 hi hj hw5
 have hA : Below w.heap.size w (w.alloc (.cells #[.slice pa s.progs.length pc, .slice ra s.rooms.length rc, .int .i64 s.groups, .int .i64 s.locks, .int .i64 s.cells, .slice (some ⟨b, off, none⟩) l.length lc, .int .i64 (Tr.rnC l : Int)] 53)) := (Below.refl _ _).alloc (Nat.le_refl _) _
 have N1 : Hid ((w.alloc (.cells #[.slice pa s.progs.length pc, .slice ra s.rooms.length rc, .int .i64 s.groups, .int .i64 s.locks, .int .i64 s.cells, .slice (some ⟨b, off, none⟩) l.length lc, .int .i64 (Tr.rnC l : Int)] 53)).heap[w.heap.size]? = some (.cells #[.slice pa s.progs.length pc, .slice ra s.rooms.length rc, .int .i64 s.groups, .int .i64 s.locks, .int .i64 s.cells, .slice (some ⟨b, off, none⟩) l.length lc, .int .i64 (Tr.rnC l : Int)] 53 (0, 0))) := heap_alloc_new w _
 have NB := TW.hide hA
 clear hA
 go_enter Try.func15, Try.ntmps15
 refine wp_seq_k fun K hK => ?_
 have HK := TW.hide hK
 clear hK
 go_wp2
 refine HK.out _ _ ?_
 clear HK K
 generalize w.alloc _ = X at *
 have HX : Hid (Below X.heap.size X X) := Below.refl _ _
 refine wp_seq_k fun K hK => ?_
 have HK := TW.hide hK
 clear hK
 refine wp_region_noPanic ?_
 refine RG.wp_region_L (fun Z => True) (fun Z => Below X.heap.size X Z) [] (by kernel_rfl) ?_
 refine RG.wpL_any fun Ya hY => ?_
 have HTa : Hid (Below X.heap.size X Ya) := by rw [hY]; exact below_drewN HX.out 1
 clear hY
 refine RG.wpL_take (fuel := 3) (a' := ?Aa) [0, 1, 3, 4, 5, 6, 7, 8, 9] (by kernel_rfl) (by kernel_rfl) (fun _ _ _ _ _ h => h) HTa.out (fun _ => trivial) ?ra ?_
 case ra =>
  iterate 2
   refine RG.RunsIf.weak (v := .agg #[.slice pa s.progs.length pc, .slice ra s.rooms.length rc, .int .i64 s.groups, .int .i64 s.locks, .int .i64 s.cells, .slice (some ⟨b, off, none⟩) l.length lc, .int .i64 (Tr.rnC l : Int)]) (by rfl) (by rfl) (fun Z hT => ?_) ?_
   ·obtain ⟨q0, q1, q2, q3, q4, q5, q6⟩ := cellsY7 (blk_keep N1.out hT)
    go_simp
   simp only [Act.put, lpA, lpZ, lpS, lgT, lgZ, lgS]
  refine RG.RunsIf.weak (v := ?_) (by rfl) (by rfl) (fun Z hT => ?_) ?_
  rotate_left
  ·go_simp
   rfl
  simp only [Act.put, lpA, lpZ, lpS, lgT, lgZ, lgS]
  refine RG.RunsIf.weak (v := .slice (some ⟨b, off, none⟩) l.length lc) (by rfl) (by rfl) (fun Z hT => ?_) ?_
  ·obtain ⟨q0, q1, q2, q3, q4, q5, q6⟩ := cellsY7 (blk_keep N1.out hT)
   go_simp
  simp only [Act.put, lpA, lpZ, lpS, lgT, lgZ, lgS]
  iterate 3
   refine RG.RunsIf.weak (v := ?_) (by rfl) (by rfl) (fun Z hT => ?_) ?_
   rotate_left
   ·go_simp
    rfl
   simp only [Act.put, lpA, lpZ, lpS, lgT, lgZ, lgS]
  refine RG.RunsIf.weak (v := .int .i64 (wn : Int)) (by rfl) (by rfl) (fun Z hT => ?_) ?_
  ·have x0 := keepC hT x0
   go_simp
  simp only [Act.put, lpA, lpZ, lpS, lgT, lgZ, lgS]
  refine RG.RunsIf.weak (v := .agg #[.int .i64 (wn : Int), .int .i64 1]) (by rfl) (by rfl) (fun Z hT => ?_) ?_
  ·go_simp
  simp only [Act.put, lpA, lpZ, lpS, lgT, lgZ, lgS]
  exact RG.RunsIf.nil
 refine RG.wpL_step (i := 2) (by kernel_rfl) (by rfl) (by rfl) (fun KX hK => ?_)
 have HK := TW.hide hK
 clear hK
 go_simp
 refine (HLk.out Ya (NB.out.trans (HTa.out.mono NB.out.size))).mono ?_
 rintro e_Wa Wa ⟨v1, ed, rfl, hv1, hor, hme, hb⟩
 have HTb : Hid (Below X.heap.size X Wa) := HTa.out.trans (hb.mono HTa.out.size)
 obtain ⟨ea, ec, rfl, hEg⟩ := EgR.of hv1
 clear hv1
 refine HK.out _ _ HTb.out (fun _ => trivial) ?_
 clear HK KX hb
 try simp only [Act.put, lpA, lpZ, lpS, lgT, lgZ, lgS]
 refine RG.wpL_step (i := 10) (by kernel_rfl) (by rfl) (by rfl) (fun KX hK => ?_)
 have HK := TW.hide hK
 clear hK
 go_simp
 refine (HCl.out ea ec ed Wa (NB.out.trans (HTb.out.mono NB.out.size)) hEg hor hme).mono ?_
 rintro e_Wb Wb ⟨oo, G, ag, hs, vv, rfl, hoo, hcm, hb⟩
 have HTc : Hid (Below X.heap.size X Wb) := HTb.out.trans (hb.mono HTb.out.size)
 have HM := TW.hide hcm
 obtain ⟨lb, lcp, b2, o2, c2, el, y1, y2⟩ := cm_one hcm i HIj.out _ (HCc.out i HIj.out)
 obtain ⟨lb', lcp', b3, o3, c3, el', y3, y4⟩ := cm_one hcm j HJj.out _ (HCc.out j HJj.out)
 rw [el] at el' ⊢
 injection el' with el1 _ el3
 injection el1 with el1
 injection el1 with el1
 subst el1 el3
 clear hcm el
 refine HK.out _ _ HTc.out (fun _ => trivial) ?_
 clear HK KX hb
 try simp only [Act.put, lpA, lpZ, lpS, lgT, lgZ, lgS]
 refine RG.wpL_take (fuel := 0) (a' := ?Aax) [11] (by kernel_rfl) (by kernel_rfl) (fun _ _ _ _ _ h => h) HTc.out (fun _ => trivial) ?rax ?_
 case rax =>
  refine RG.RunsIf.weak (v := ?_) (by rfl) (by rfl) (fun Z hT => ?_) ?_
  rotate_left
  ·go_simp
   rfl
  simp only [Act.put, lpA, lpZ, lpS, lgT, lgZ, lgS]
  exact RG.RunsIf.nil
 refine RG.wpL_done (by kernel_rfl) ?_ _
 refine NoPanic.normal ?_
 refine HK.out _ _ ?_
 clear HK
 have NBc : Hid (Below w.heap.size w Wb) := NB.out.trans (HTc.out.mono NB.out.size)
 clear hor hme hEg hoo HTa HTb HTc HM NB N1 HLk HCl HCc x0 HX
 have HX : Hid (Below Wb.heap.size Wb Wb) := Below.refl _ _
 rw [HBf.out]
 obtain ⟨ci, hci⟩ : ∃ ci : Int, ((Tr.ck s l (wn : Int) i : Nat) : Int) = ci := ⟨_, rfl⟩
 obtain ⟨cj, hcj⟩ : ∃ cj : Int, ((Tr.ck s l (wn : Int) j : Nat) : Int) = cj := ⟨_, rfl⟩
 rw [hci] at y2
 rw [hcj] at y4
 have hdec : decide (i ≠ j ∧ Tr.ck s l (wn : Int) i ≤ Tr.ck s l (wn : Int) j) = (decide (i ≠ j) && decide (ci ≤ cj)) := by
  rw [← hci, ← hcj]
  by_cases h1 : i = j <;> by_cases h2 : Tr.ck s l (wn : Int) i ≤ Tr.ck s l (wn : Int) j <;> simp [h1, h2]
 rw [hdec]
 have HSe : Hid (∀ W, Calls Try.prog 28 #[.int .i64 ci, .int .i64 cj] W fun e w' => e = .returned (.bool (decide (ci ≤ cj))) ∧ Below W.heap.size W w') := fun W => (pseen ci cj W).mono fun e w' h => ⟨h.1, by rw [h.2]; exact Below.refl _ _⟩
 clear hdec hci hcj HBf
 by_cases hij : i = j
 ·have kij : ((i : Int) != (j : Int)) = false := by simp [hij]
  have kr : (decide (i ≠ j) && decide (ci ≤ cj)) = false := by simp [hij]
  rw [kr]
  clear hij kr
  refine wp_seq_k fun K hK => ?_
  have HK := TW.hide hK
  clear hK
  refine wp_region_noPanic ?_
  refine RG.wp_region_L (fun Z => True) (fun Z => Below Wb.heap.size Wb Z) [] (by kernel_rfl) ?_
  refine RG.wpL_any fun Yc hY => ?_
  have HTc : Hid (Below Wb.heap.size Wb Yc) := by rw [hY]; exact below_drewN HX.out 1
  clear hY
  refine RG.wpL_take (fuel := 0) (a' := ?Ac) [0, 1, 2, 3, 4, 5, 6, 7, 8, 9, 10, 11, 12, 13, 14, 15, 16, 17, 18] (by kernel_rfl) (by kernel_rfl) (fun _ _ _ _ _ h => h) HTc.out (fun _ => trivial) ?rc ?_
  case rc =>
   iterate 2
    refine RG.RunsIf.weak (v := ?_) (by rfl) (by rfl) (fun Z hT => ?_) ?_
    rotate_left
    ·go_simp
     rfl
    simp only [Act.put, lpA, lpZ, lpS, lgT, lgZ, lgS]
   iterate 2
    refine RG.RunsIf.weak (v := .bool false) (by rfl) (by rfl) (fun Z hT => ?_) ?_
    ·go_simp
    simp only [Act.put, lpA, lpZ, lpS, lgT, lgZ, lgS]
   iterate 13
    refine RG.RunsIf.skip (by rfl) (by rfl) ?_
    simp only [Act.put, lpA, lpZ, lpS, lgT, lgZ, lgS]
   refine RG.RunsIf.weak (v := .bool false) (by rfl) (by rfl) (fun Z hT => ?_) ?_
   ·(go_simp) <;> rfl
   simp only [Act.put, lpA, lpZ, lpS, lgT, lgZ, lgS]
   refine RG.RunsIf.weak (v := ?_) (by rfl) (by rfl) (fun Z hT => ?_) ?_
   rotate_left
   ·go_simp
    rfl
   simp only [Act.put, lpA, lpZ, lpS, lgT, lgZ, lgS]
   exact RG.RunsIf.nil
  refine RG.wpL_done (by kernel_rfl) ?_ _
  refine NoPanic.normal ?_
  refine HK.out _ _ ?_
  clear HK
  go_wp2
  go_ret
  exact ⟨rfl, NBc.out.trans (HTc.out.mono NBc.out.size)⟩
 ·have kij : ((i : Int) != (j : Int)) = true := by simp; omega
  have kr : (decide (i ≠ j) && decide (ci ≤ cj)) = decide (ci ≤ cj) := by simp [hij]
  rw [kr]
  generalize decide (ci ≤ cj) = dd at *
  clear hij kr
  refine wp_seq_k fun K hK => ?_
  have HK := TW.hide hK
  clear hK
  refine wp_region_noPanic ?_
  refine RG.wp_region_L (fun Z => True) (fun Z => Below Wb.heap.size Wb Z) [] (by kernel_rfl) ?_
  refine RG.wpL_any fun Yd hY => ?_
  have HTd : Hid (Below Wb.heap.size Wb Yd) := by rw [hY]; exact below_drewN HX.out 1
  clear hY
  refine RG.wpL_take (fuel := 3) (a' := ?Ad) [0, 1, 2, 3, 4, 5, 6, 7, 8, 9, 10, 11, 12, 13, 14, 15] (by kernel_rfl) (by kernel_rfl) (fun _ _ _ _ _ h => h) HTd.out (fun _ => trivial) ?rd ?_
  case rd =>
   iterate 2
    refine RG.RunsIf.weak (v := ?_) (by rfl) (by rfl) (fun Z hT => ?_) ?_
    rotate_left
    ·go_simp
     rfl
    simp only [Act.put, lpA, lpZ, lpS, lgT, lgZ, lgS]
   iterate 2
    refine RG.RunsIf.weak (v := .bool true) (by rfl) (by rfl) (fun Z hT => ?_) ?_
    ·go_simp
    simp only [Act.put, lpA, lpZ, lpS, lgT, lgZ, lgS]
   iterate 3
    refine RG.RunsIf.weak (v := ?_) (by rfl) (by rfl) (fun Z hT => ?_) ?_
    rotate_left
    ·go_simp
     rfl
    simp only [Act.put, lpA, lpZ, lpS, lgT, lgZ, lgS]
   refine RG.RunsIf.weak (v := .slice (some ⟨b2, o2, none⟩) 1 c2) (by rfl) (by rfl) (fun Z hT => ?_) ?_
   ·have y1 := keepC hT y1; have y2 := keepC hT y2; have y3 := keepC hT y3; have y4 := keepC hT y4
    go_simp
   simp only [Act.put, lpA, lpZ, lpS, lgT, lgZ, lgS]
   refine RG.RunsIf.weak (v := ?_) (by rfl) (by rfl) (fun Z hT => ?_) ?_
   rotate_left
   ·go_simp
    rfl
   simp only [Act.put, lpA, lpZ, lpS, lgT, lgZ, lgS]
   refine RG.RunsIf.weak (v := .int .i64 ci) (by rfl) (by rfl) (fun Z hT => ?_) ?_
   ·have y1 := keepC hT y1; have y2 := keepC hT y2; have y3 := keepC hT y3; have y4 := keepC hT y4
    go_simp
   simp only [Act.put, lpA, lpZ, lpS, lgT, lgZ, lgS]
   iterate 3
    refine RG.RunsIf.weak (v := ?_) (by rfl) (by rfl) (fun Z hT => ?_) ?_
    rotate_left
    ·go_simp
     rfl
    simp only [Act.put, lpA, lpZ, lpS, lgT, lgZ, lgS]
   refine RG.RunsIf.weak (v := .slice (some ⟨b3, o3, none⟩) 1 c3) (by rfl) (by rfl) (fun Z hT => ?_) ?_
   ·have y1 := keepC hT y1; have y2 := keepC hT y2; have y3 := keepC hT y3; have y4 := keepC hT y4
    go_simp
   simp only [Act.put, lpA, lpZ, lpS, lgT, lgZ, lgS]
   refine RG.RunsIf.weak (v := ?_) (by rfl) (by rfl) (fun Z hT => ?_) ?_
   rotate_left
   ·go_simp
    rfl
   simp only [Act.put, lpA, lpZ, lpS, lgT, lgZ, lgS]
   refine RG.RunsIf.weak (v := .int .i64 cj) (by rfl) (by rfl) (fun Z hT => ?_) ?_
   ·have y1 := keepC hT y1; have y2 := keepC hT y2; have y3 := keepC hT y3; have y4 := keepC hT y4
    go_simp
   simp only [Act.put, lpA, lpZ, lpS, lgT, lgZ, lgS]
   exact RG.RunsIf.nil
  refine RG.wpL_stepw (i := 16) (by kernel_rfl) (by rfl) (by rfl) (fun KX hK => ?_)
  have HK := TW.hide hK
  clear hK
  go_simp
  refine (HSe.out Yd).mono ?_
  rintro e_Wd Wd ⟨rfl, hb⟩
  have HTe : Hid (Below Wb.heap.size Wb Wd) := HTd.out.trans (hb.mono HTd.out.size)
  refine HK.out _ _ HTe.out (fun _ => trivial) ?_
  clear HK KX hb
  try simp only [Act.put, lpA, lpZ, lpS, lgT, lgZ, lgS]
  refine RG.wpL_take (fuel := 0) (a' := ?Adx) [17, 18] (by kernel_rfl) (by kernel_rfl) (fun _ _ _ _ _ h => h) HTe.out (fun _ => trivial) ?rdx ?_
  case rdx =>
   iterate 2
    refine RG.RunsIf.weak (v := ?_) (by rfl) (by rfl) (fun Z hT => ?_) ?_
    rotate_left
    ·go_simp
     rfl
    simp only [Act.put, lpA, lpZ, lpS, lgT, lgZ, lgS]
   exact RG.RunsIf.nil
  refine RG.wpL_done (by kernel_rfl) ?_ _
  refine NoPanic.normal ?_
  refine HK.out _ _ ?_
  clear HK
  go_wp2
  go_ret
  exact ⟨rfl, NBc.out.trans (HTe.out.mono NBc.out.size)⟩
end LW
end Go.Proofs.Ythgmmggpclmagaa
namespace Go.Proofs.Ythgmmggpclmagaa
open Go.RowKit
set_option linter.unusedVariables false
set_option linter.unusedSimpArgs false
namespace LW
open Mc
set_option maxRecDepth 100000 in
set_option maxHeartbeats 4000000 in
theorem phas9 (s : Syst) (pa : Option Addr) (pc : Nat) (ra : Option Addr) (rc : Nat) (la : Option Addr) (lc : Nat) (l : List Ev) (rn : Int) (i : Int) (w : World) : Calls Try.prog 14 #[.agg #[.slice pa s.progs.length pc, .slice ra s.rooms.length rc, .int .i64 s.groups, .int .i64 s.locks, .int .i64 s.cells, .slice la l.length lc, .int .i64 rn], .int .i64 i] w fun e w' => e = .returned (.bool (decide (0 ≤ i ∧ i < (l.length : Int)))) ∧ Below w.heap.size w w' := by
 have hA : Below w.heap.size w (w.alloc (.cells #[.slice pa s.progs.length pc, .slice ra s.rooms.length rc, .int .i64 s.groups, .int .i64 s.locks, .int .i64 s.cells, .slice la l.length lc, .int .i64 rn] 53)) := (Below.refl _ _).alloc (Nat.le_refl _) _
 have N1 : Hid ((w.alloc (.cells #[.slice pa s.progs.length pc, .slice ra s.rooms.length rc, .int .i64 s.groups, .int .i64 s.locks, .int .i64 s.cells, .slice la l.length lc, .int .i64 rn] 53)).heap[w.heap.size]? = some (.cells #[.slice pa s.progs.length pc, .slice ra s.rooms.length rc, .int .i64 s.groups, .int .i64 s.locks, .int .i64 s.cells, .slice la l.length lc, .int .i64 rn] 53 (0, 0))) := heap_alloc_new w _
 have NB := TW.hide hA
 clear hA
 go_enter Try.func14, Try.ntmps14
 refine wp_seq_k fun K hK => ?_
 have HK := TW.hide hK
 clear hK
 go_wp2
 refine HK.out _ _ ?_
 clear HK K
 generalize w.alloc _ = X at *
 obtain ⟨q0, q1, q2, q3, q4, q5, q6⟩ := cellsY7 N1.out
 by_cases h1 : 0 ≤ i
 ·by_cases h2 : i < (l.length : Int)
  ·go_wp2
   go_ret
   exact ⟨by simp [h1, h2], NB.out⟩
  ·go_wp2
   go_ret
   exact ⟨by simp [h1, h2], NB.out⟩
 ·go_wp2
  go_ret
  exact ⟨by simp; omega, NB.out⟩
set_option maxRecDepth 100000 in
set_option maxHeartbeats 4000000 in
theorem ptbefore (s : Syst) (pa : Option Addr) (pc : Nat) (ra : Option Addr) (rc : Nat) (la : Option Addr) (lc : Nat) (l : List Ev) (i j : Int) (w : World) (hs : SyI w s pa ra) (hl : EvI w la lc l) :
  Calls Try.prog 8 #[.agg #[.slice pa s.progs.length pc, .slice ra s.rooms.length rc, .int .i64 s.groups, .int .i64 s.locks, .int .i64 s.cells], .slice la l.length lc, .int .i64 i, .int .i64 j] w fun e w' => e = .returned (.tuple #[.bool (beA s l i j), .int .i64 (beE s l i j)]) ∧ Below w.heap.size w w' := by
 obtain ⟨POST, hP⟩ : ∃ Q : Ending → World → Prop, Q = fun e w' => e = .returned (.tuple #[.bool (beA s l i j), .int .i64 (beE s l i j)]) ∧ Below w.heap.size w w' := ⟨_, rfl⟩
 obtain ⟨va, vn, ve, hV⟩ : ∃ a n e, Tr.vR s l = (a, n, e) := ⟨_, _, _, rfl⟩
 have HRd : Hid (∀ W, Below w.heap.size w W → Calls Try.prog 13 #[.agg #[.slice pa s.progs.length pc, .slice ra s.rooms.length rc, .int .i64 s.groups, .int .i64 s.locks, .int .i64 s.cells], .slice la l.length lc] W fun e w' => ∃ hc, e = .returned (.tuple #[.agg hc, .int .i64 va, .int .i64 ve]) ∧ (ve = 0 → hc = #[.slice pa s.progs.length pc, .slice ra s.rooms.length rc, .int .i64 s.groups, .int .i64 s.locks, .int .i64 s.cells, .slice la l.length lc, .int .i64 (Tr.rnC l : Int)]) ∧ (ve ≠ 0 → hc = #[.slice none 0 0, .slice none 0 0, .int .i64 0, .int .i64 0, .int .i64 0, .slice none 0 0, .int .i64 0]) ∧ Below W.heap.size W w') := fun W hW => (pread s pa pc ra rc la lc l W (hs.below hW) (hl.below hW)).mono (fun e w' h => by unfold ReaQ at h; rw [hV] at h; exact h)
 have HOk : Hid (ve = 0 → Ok s ∧ l.length ≤ 40000 ∧ Tr.Gd s l l.length) := fun h => by
  have h2 := Tr.vR_ok (s := s) (l := l) (by rw [hV]; exact h)
  exact ⟨h2.1, h2.2.1, h2.2.2.1⟩
 have HPe : Hid (ve ≠ 0 → ∀ W, Below w.heap.size w W → POST (.returned (.tuple #[.bool false, .int .i64 ve])) W) := fun h W hW => by
  rw [hP]
  have h1 : beE s l i j = ve := by unfold beE; rw [hV]; exact if_neg h
  have h2 : beA s l i j = false := by unfold beA; rw [h1]; simp [h]
  rw [h1, h2]
  exact ⟨rfl, hW⟩
 have HPa : Hid (ve = 0 → ¬ ((0 ≤ i ∧ i < (l.length : Int)) ∧ (0 ≤ j ∧ j < (l.length : Int))) → ∀ W, Below w.heap.size w W → POST (.returned (.tuple #[.bool false, .int .i64 1])) W) := fun h hi W hW => by
  rw [hP]
  have h1 : beE s l i j = 1 := by unfold beE; rw [hV]; dsimp only; rw [if_pos h, if_neg hi]
  have h2 : beA s l i j = false := by unfold beA; rw [h1]; rfl
  rw [h1, h2]
  exact ⟨rfl, hW⟩
 have HPo : Hid (ve = 0 → ∀ (k m : Nat), i = (k : Int) → k < l.length → j = (m : Int) → m < l.length → ∀ W, Below w.heap.size w W → POST (.returned (.tuple #[.bool (bfB s l k m), .int .i64 0])) W) := fun h k m e hk e2 hm W hW => by
  rw [hP]
  have h1 : beE s l i j = 0 := by unfold beE; rw [hV]; dsimp only; rw [if_pos h, if_pos (by omega)]
  have h2 : beA s l i j = bfB s l k m := by unfold beA; rw [h1, e, e2]; simp
  rw [h1, h2]
  exact ⟨rfl, hW⟩
 rw [← hP]
 have HEw := TW.hide hl
 have HSw := TW.hide hs
 clear hP hs hl hV
 have hA : Below w.heap.size w (w.alloc (.cells #[.slice pa s.progs.length pc, .slice ra s.rooms.length rc, .int .i64 s.groups, .int .i64 s.locks, .int .i64 s.cells] 25)) := (Below.refl _ _).alloc (Nat.le_refl _) _
 have N1 : Hid ((w.alloc (.cells #[.slice pa s.progs.length pc, .slice ra s.rooms.length rc, .int .i64 s.groups, .int .i64 s.locks, .int .i64 s.cells] 25)).heap[w.heap.size]? = some (.cells #[.slice pa s.progs.length pc, .slice ra s.rooms.length rc, .int .i64 s.groups, .int .i64 s.locks, .int .i64 s.cells] 25 (0, 0))) := heap_alloc_new w _
 have NB := TW.hide hA
 clear hA
 go_enter Try.func8, Try.ntmps8
 refine wp_seq_k fun K hK => ?_
 have HK := TW.hide hK
 clear hK
 go_wp2
 refine HK.out _ _ ?_
 clear HK K
 generalize w.alloc _ = X at *
 obtain ⟨s0, s1, s2, s3, s4⟩ := cellsY5 N1.out
 go_wp2_with fail
 refine (HRd.out X NB.out).mono ?_
 rintro e1 W1 ⟨hc, rfl, h1, h2, hb⟩
 have NB1 : Hid (Below w.heap.size w W1) := NB.out.trans (hb.mono NB.out.size)
 have NS := TW.hide (blk_keep N1.out hb)
 clear hb NB N1 s0 s1 s2 s3 s4 HRd
 by_cases he : ve = 0
 ·obtain rfl := h1 he
  obtain ⟨ho, hn, hg⟩ := HOk.out he
  have NB2 : Hid (Below w.heap.size w ((W1.alloc (.cells #[.slice none 0 0, .slice none 0 0, .int .i64 0, .int .i64 0, .int .i64 0, .slice none 0 0, .int .i64 0] 53)).setRow W1.heap.size #[.slice pa s.progs.length pc, .slice ra s.rooms.length rc, .int .i64 s.groups, .int .i64 s.locks, .int .i64 s.cells, .slice la l.length lc, .int .i64 (Tr.rnC l : Int)])) := below_setRow (NB1.out.alloc NB1.out.size _) NB1.out.size
  have hA_ : Below W1.heap.size W1 ((W1.alloc (.cells #[.slice none 0 0, .slice none 0 0, .int .i64 0, .int .i64 0, .int .i64 0, .slice none 0 0, .int .i64 0] 53)).setRow W1.heap.size #[.slice pa s.progs.length pc, .slice ra s.rooms.length rc, .int .i64 s.groups, .int .i64 s.locks, .int .i64 s.cells, .slice la l.length lc, .int .i64 (Tr.rnC l : Int)]) := below_setRow ((Below.refl _ _).alloc (Nat.le_refl _) _) (Nat.le_refl _)
  have NS2 := TW.hide (blk_keep NS.out hA_)
  have N2 : Hid (((W1.alloc (.cells #[.slice none 0 0, .slice none 0 0, .int .i64 0, .int .i64 0, .int .i64 0, .slice none 0 0, .int .i64 0] 53)).setRow W1.heap.size #[.slice pa s.progs.length pc, .slice ra s.rooms.length rc, .int .i64 s.groups, .int .i64 s.locks, .int .i64 s.cells, .slice la l.length lc, .int .i64 (Tr.rnC l : Int)]).heap[W1.heap.size]? = some (.cells #[.slice pa s.progs.length pc, .slice ra s.rooms.length rc, .int .i64 s.groups, .int .i64 s.locks, .int .i64 s.cells, .slice la l.length lc, .int .i64 (Tr.rnC l : Int)] 53 (0, 0))) := setRow_heap _ _ _ _ _ _ (heap_alloc_new W1 _)
  clear hA_ NS
  have HHs : Hid (∀ (x : Int) W, Calls Try.prog 14 #[.agg #[.slice pa s.progs.length pc, .slice ra s.rooms.length rc, .int .i64 s.groups, .int .i64 s.locks, .int .i64 s.cells, .slice la l.length lc, .int .i64 (Tr.rnC l : Int)], .int .i64 x] W fun e w' => e = .returned (.bool (decide (0 ≤ x ∧ x < (l.length : Int)))) ∧ Below W.heap.size W w') := fun x W => phas9 s pa pc ra rc la lc l _ x W
  have HBe : Hid (∀ k m : Nat, k < l.length → m < l.length → ∀ W, Below w.heap.size w W → Calls Try.prog 15 #[.agg #[.slice pa s.progs.length pc, .slice ra s.rooms.length rc, .int .i64 s.groups, .int .i64 s.locks, .int .i64 s.cells, .slice la l.length lc, .int .i64 (Tr.rnC l : Int)], .int .i64 (k : Int), .int .i64 (m : Int)] W fun e w' => e = .returned (.bool (bfB s l k m)) ∧ Below W.heap.size W w') := fun k m hk hm W hW => pbefore s pa pc ra rc la lc l k m W (HSw.out.below hW) (HEw.out.below hW) ho hg hn hk hm
  have HPa' := TW.hide (HPa.out he)
  have HPo' := TW.hide (HPo.out he)
  subst he
  clear h1 h2 ho hn hg HOk HPe HPa HPo HEw HSw
  go_wp2_with (first | (refine wpList_store_row (by rfl) 53 _ _ (by rfl) W1.heap.size #[.slice pa s.progs.length pc, .slice ra s.rooms.length rc, .int .i64 s.groups, .int .i64 s.locks, .int .i64 s.cells, .slice la l.length lc, .int .i64 (Tr.rnC l : Int)] (by rfl) (by rfl) 53 _ (heap_alloc_new W1 _) (by kernel_rfl) (by rfl) (by simp [Value.oneCell']) ?_; generalize World.setRow _ _ _ = X2 at *; generalize W1.heap.size = g2 at *; obtain ⟨q0, q1, q2, q3, q4, q5, q6⟩ := cellsY7 N2.out; obtain ⟨r0, r1, r2, r3, r4⟩ := cellsY5 NS2.out) | fail)
  refine (HHs.out i X2).mono ?_
  rintro e3 W3 ⟨rfl, hb⟩
  have NB3 : Hid (Below w.heap.size w W3) := NB2.out.trans (hb.mono NB2.out.size)
  have N3 := TW.hide (blk_keep N2.out hb)
  clear hb q0 q1 q2 q3 q4 q5 q6 r0 r1 r2 r3 r4 N2 NS2 NB2
  obtain ⟨q0, q1, q2, q3, q4, q5, q6⟩ := cellsY7 N3.out
  by_cases hi : 0 ≤ i ∧ i < (l.length : Int)
  ·have kd : (decide (0 ≤ i ∧ i < (l.length : Int))) = true := decide_eq_true hi
   rw [kd]
   clear kd
   go_wp2_with fail
   refine (HHs.out j W3).mono ?_
   rintro e4 W4 ⟨rfl, hb⟩
   have NB4 : Hid (Below w.heap.size w W4) := NB3.out.trans (hb.mono NB3.out.size)
   have N4 := TW.hide (blk_keep N3.out hb)
   clear hb q0 q1 q2 q3 q4 q5 q6 N3 NB3
   obtain ⟨q0, q1, q2, q3, q4, q5, q6⟩ := cellsY7 N4.out
   by_cases hj : 0 ≤ j ∧ j < (l.length : Int)
   ·have kd : (decide (0 ≤ j ∧ j < (l.length : Int))) = true := decide_eq_true hj
    rw [kd]
    obtain ⟨k, rfl⟩ : ∃ k : Nat, i = (k : Int) := ⟨i.toNat, by omega⟩
    obtain ⟨m, rfl⟩ : ∃ m : Nat, j = (m : Int) := ⟨j.toNat, by omega⟩
    have hk : k < l.length := by omega
    have hm : m < l.length := by omega
    have HH := TW.hide (HBe.out k m hk hm W4 NB4.out)
    have HPk := TW.hide (HPo'.out k m rfl hk rfl hm)
    clear kd hi hj hk hm HBe HPo' HPa' HHs
    go_wp2_with fail
    refine HH.out.mono ?_
    rintro e5 W5 ⟨rfl, hb⟩
    have HR := TW.hide (HPk.out W5 (NB4.out.trans (hb.mono NB4.out.size)))
    clear hb HPk HH
    go_wp2
    first | exact HR.out | exact ⟨rfl, HR.out⟩
   ·have kd : (decide (0 ≤ j ∧ j < (l.length : Int))) = false := decide_eq_false hj
    have HR := TW.hide (HPa'.out (fun h => hj h.2) W4 NB4.out)
    rw [kd]
    clear hi hj kd HBe HPo' HPa' HHs
    go_wp2
    first | exact HR.out | exact ⟨rfl, HR.out⟩
  ·have kd : (decide (0 ≤ i ∧ i < (l.length : Int))) = false := decide_eq_false hi
   have HR := TW.hide (HPa'.out (fun h => hi h.1) W3 NB3.out)
   rw [kd]
   clear hi kd HBe HPo' HPa' HHs
   go_wp2
   first | exact HR.out | exact ⟨rfl, HR.out⟩
 ·obtain rfl := h2 he
  have NB2 : Hid (Below w.heap.size w ((W1.alloc (.cells #[.slice none 0 0, .slice none 0 0, .int .i64 0, .int .i64 0, .int .i64 0, .slice none 0 0, .int .i64 0] 53)).setRow W1.heap.size #[.slice none 0 0, .slice none 0 0, .int .i64 0, .int .i64 0, .int .i64 0, .slice none 0 0, .int .i64 0])) := below_setRow (NB1.out.alloc NB1.out.size _) NB1.out.size
  have hA_ : Below W1.heap.size W1 ((W1.alloc (.cells #[.slice none 0 0, .slice none 0 0, .int .i64 0, .int .i64 0, .int .i64 0, .slice none 0 0, .int .i64 0] 53)).setRow W1.heap.size #[.slice none 0 0, .slice none 0 0, .int .i64 0, .int .i64 0, .int .i64 0, .slice none 0 0, .int .i64 0]) := below_setRow ((Below.refl _ _).alloc (Nat.le_refl _) _) (Nat.le_refl _)
  have NS2 := TW.hide (blk_keep NS.out hA_)
  have N2 : Hid (((W1.alloc (.cells #[.slice none 0 0, .slice none 0 0, .int .i64 0, .int .i64 0, .int .i64 0, .slice none 0 0, .int .i64 0] 53)).setRow W1.heap.size #[.slice none 0 0, .slice none 0 0, .int .i64 0, .int .i64 0, .int .i64 0, .slice none 0 0, .int .i64 0]).heap[W1.heap.size]? = some (.cells #[.slice none 0 0, .slice none 0 0, .int .i64 0, .int .i64 0, .int .i64 0, .slice none 0 0, .int .i64 0] 53 (0, 0))) := setRow_heap _ _ _ _ _ _ (heap_alloc_new W1 _)
  clear hA_ NS
  have HPe' := TW.hide (HPe.out he)
  have kv : (ve != 0) = true := by simp [he]
  clear he h1 h2 HOk HPe HPa HPo HEw HSw
  go_wp2_with (first | (refine wpList_store_row (by rfl) 53 _ _ (by rfl) W1.heap.size #[.slice none 0 0, .slice none 0 0, .int .i64 0, .int .i64 0, .int .i64 0, .slice none 0 0, .int .i64 0] (by rfl) (by rfl) 53 _ (heap_alloc_new W1 _) (by kernel_rfl) (by rfl) (by simp [Value.oneCell']) ?_; generalize World.setRow _ _ _ = X2 at *; generalize W1.heap.size = g2 at *; obtain ⟨q0, q1, q2, q3, q4, q5, q6⟩ := cellsY7 N2.out; obtain ⟨r0, r1, r2, r3, r4⟩ := cellsY5 NS2.out) | fail)
  have HR := TW.hide (HPe'.out X2 NB2.out)
  first | exact HR.out | exact ⟨rfl, HR.out⟩
end LW
end Go.Proofs.Ythgmmggpclmagaa
namespace Go.Proofs.Ythgmmggpclmagaa
open Go.RowKit
set_option linter.unusedVariables false
set_option linter.unusedSimpArgs false
namespace LW
open Mc
def smT : Syst := ⟨[[]], [], 0, 0, 1⟩
def smL : List Ev := [⟨0, 16, 0, 0, false⟩, ⟨0, 16, 0, 0, false⟩]
theorem sm_nil (p : Nat) : (smT.progs.getD p []) = [] := by
 rcases p with _ | p <;> rfl
theorem sm_ok : Ok smT := by
 refine ⟨by decide, by decide, by decide, by decide, by decide, by decide, fun i hi => by simp [smT] at hi, fun p hp => by rw [sm_nil]; simp, fun p hp j hj => ?_⟩
 rw [sm_nil] at hj
 simp at hj
theorem sm_gd : Tr.Gd smT smL smL.length := by
 intro j hj
 have hj : j < 2 := hj
 have he : smL.getD j Tr.e0 = ⟨0, 16, 0, 0, false⟩ := by
  rcases (show j = 0 ∨ j = 1 by omega) with rfl | rfl <;> rfl
 rw [he]
 have hr := Tr.rnC_pos (smL.take j)
 refine ⟨⟨by decide, by show (0 : Int) < _; omega, by decide, by decide, fun m hm => ?_⟩, fun h => ?_, fun h => ?_, fun h => ?_, fun h => ?_⟩
 ·unfold Tr.mnC at hm
  simp at hm
 all_goals (exact absurd h (by decide))
theorem sm_be : beE smT smL 0 1 = 0 ∧ beA smT smL 0 1 = true := by
 have h1 : (Tr.vR smT smL).2.2 = 0 := by rw [Tr.vR_good sm_ok (by decide) sm_gd]
 have h2 : beE smT smL 0 1 = 0 := by
  unfold beE
  rw [if_pos h1, if_pos (by decide)]
 refine ⟨h2, ?_⟩
 unfold beA
 rw [h2]
 have h3 := (Tr.bf_iff smT smL 0 1 (by decide) (by decide)).1 (Tr.bf_own smT smL 0 1 (by decide) (by decide) rfl)
 show (true && bfB smT smL 0 1) = true
 unfold bfB
 rw [decide_eq_true h3]
 rfl
theorem cells_ten (w : World) (a b c d e f g h i j : Value) (t : TypeId) : ∀ k u, [a, b, c, d, e, f, g, h, i, j][k]? = some u → (w.alloc (.cells #[a, b, c, d, e, f, g, h, i, j] t)).cell? ((⟨w.heap.size, 0, none⟩ : Addr).add k) = some u := by
 intro k u hk
 have hadd : (⟨w.heap.size, 0, none⟩ : Addr).add k = ⟨w.heap.size, k, none⟩ := by unfold Addr.add; split <;> simp_all
 rw [hadd, cell_of_row _ _ k _ t (0, 0) (heap_alloc_new w _)]
 simpa using hk
theorem slIinfo : (Try.prog.info? 59).map (fun i => (i.zero, i.size, i.bytes)) = some (some (.slice none 0 0), 1, 24) := by kernel_rfl
set_option maxRecDepth 100000 in
set_option maxHeartbeats 4000000 in
theorem lsmall (w : World) : Calls Try.prog 9 #[] w fun e w' => ∃ pa pc, e = .returned (.agg #[.slice pa 1 pc, .slice none 0 0, .int .i64 0, .int .i64 0, .int .i64 1]) ∧ SyI w' smT pa none ∧ Below w.heap.size w w' := by
 obtain ⟨ie, hie, hz0, hz1, hz2⟩ := info_parts' slIinfo
 go_enter Try.func9, Try.ntmps9
 refine wp_seq_k fun K hK => ?_
 have HK := TW.hide hK
 clear hK
 go_wp2
 refine HK.out _ _ ?_
 clear HK
 refine wp_seq_k fun K hK => ?_
 have HK := TW.hide hK
 clear hK
 go_wp2
 refine HK.out _ _ ?_
 clear HK
 have N0 : Hid (((w.alloc (.cells #[.slice none 0 0, .slice none 0 0, .int .i64 0, .int .i64 0, .int .i64 0] 25)).alloc (.cells #[.slice none 0 0, .slice none 0 0, .int .i64 0, .int .i64 0, .int .i64 0] 25)).heap[w.heap.size]? = some (.cells #[.slice none 0 0, .slice none 0 0, .int .i64 0, .int .i64 0, .int .i64 0] 25 (0, 0))) := blk_alloc (heap_alloc_new w _)
 have N1 : Hid (((w.alloc (.cells #[.slice none 0 0, .slice none 0 0, .int .i64 0, .int .i64 0, .int .i64 0] 25)).alloc (.cells #[.slice none 0 0, .slice none 0 0, .int .i64 0, .int .i64 0, .int .i64 0] 25)).heap[w.heap.size + 1]? = some (.cells #[.slice none 0 0, .slice none 0 0, .int .i64 0, .int .i64 0, .int .i64 0] 25 (0, 0))) := by
  have h1 := heap_alloc_new (w.alloc (.cells #[.slice none 0 0, .slice none 0 0, .int .i64 0, .int .i64 0, .int .i64 0] 25)) (.cells #[.slice none 0 0, .slice none 0 0, .int .i64 0, .int .i64 0, .int .i64 0] 25)
  have h2 : (w.alloc (.cells #[.slice none 0 0, .slice none 0 0, .int .i64 0, .int .i64 0, .int .i64 0] 25)).heap.size = w.heap.size + 1 := by simp
  rw [h2] at h1
  exact h1
 have NB : Hid (Below w.heap.size w ((w.alloc (.cells #[.slice none 0 0, .slice none 0 0, .int .i64 0, .int .i64 0, .int .i64 0] 25)).alloc (.cells #[.slice none 0 0, .slice none 0 0, .int .i64 0, .int .i64 0, .int .i64 0] 25))) := ((Below.refl _ _).alloc (Nat.le_refl _) _).alloc (by simp) _
 generalize World.alloc _ _ = X at *
 obtain ⟨s0, s1, s2, s3, s4⟩ := cellsY5 N1.out
 have HF5 : Hid (∀ v5 w5, w5.ownsRow X.heap.size 59 1 v5 1 [.slice none 0 0] → (X.alloc (.cells #[.slice none 0 0] 59)).grownBy w5 none → (∃ gb vc, v5 = .slice (some ⟨gb, 0, none⟩) 1 vc ∧ X.heap.size ≤ gb ∧ (w5.setCell ⟨w.heap.size + 1, 0, none⟩ v5).cell? ⟨gb, 0, none⟩ = some (.slice none 0 0)) ∧ w5.frozen? ⟨w.heap.size + 1, 0, none⟩ = false ∧ (∃ z, w5.cell? ⟨w.heap.size + 1, 0, none⟩ = some z) ∧ (w5.setCell ⟨w.heap.size + 1, 0, none⟩ v5).heap[w.heap.size]? = some (.cells #[.slice none 0 0, .slice none 0 0, .int .i64 0, .int .i64 0, .int .i64 0] 25 (0, 0)) ∧ (w5.setCell ⟨w.heap.size + 1, 0, none⟩ v5).heap[w.heap.size + 1]? = some (.cells #[v5, .slice none 0 0, .int .i64 0, .int .i64 0, .int .i64 0] 25 (0, 0)) ∧ Below w.heap.size w (w5.setCell ⟨w.heap.size + 1, 0, none⟩ v5)) := fun v5 w5 h1 h2 => by
  have hA := (Below.refl X.heap.size X).alloc (Nat.le_refl _) (.cells #[.slice none 0 0] 59)
  have hB : Below X.heap.size X w5 := hA.trans (((Below.refl _ _).grown h2 (Nat.le_refl _) (by intro k h; cases h)).mono hA.size)
  have n0 := blk_keep N0.out hB
  have n1 := blk_keep N1.out hB
  have g1 := blk_lt N1.out
  refine ⟨?_, by simp [World.frozen?, n1], ⟨_, blk_cell n1 (i := 0) rfl⟩, ?_, blk_set n1, ((NB.out.trans (hB.mono NB.out.size)).setCell (p := ⟨w.heap.size + 1, 0, none⟩) (by simp) _)⟩
  ·rcases h1.2 with ⟨_, h3⟩ | ⟨g, cap, cur, e, hg, hh, _, _, hcs, ht⟩
   ·simp at h3
   ·subst e
    refine ⟨g, cap, rfl, hg, ?_⟩
    have hne : g ≠ w.heap.size + 1 := by omega
    rw [cell_of (show (w5.setCell ⟨w.heap.size + 1, 0, none⟩ _).heap[g]? = w5.heap[g]? from Below.heap_setCell _ _ _ _ hne)]
    have h4 : (cur.toList.take (1 * 1))[0]? = some (.slice none 0 0) := by rw [ht]; rfl
    rw [List.getElem?_take, if_pos (by omega), Array.getElem?_toList] at h4
    rw [cell_of_row w5 g 0 cur _ (0, 0) hh]
    exact h4
  ·rw [Below.heap_setCell _ _ _ _ (by simp)]
   exact n0
 have HG1 : Hid (w.heap.size < w.heap.size + 1) := Nat.lt_succ_self _
 have HG2 : Hid (w.heap.size + 1 < X.heap.size) := blk_lt N1.out
 generalize w.heap.size + 1 = g1 at *
 refine wp_seq_k fun K hK => ?_
 have HK := TW.hide hK
 clear hK
 go_wp2_with (at_builtin; refine wpList_append_own_at _ rfl _ _ 22 rfl X.heap.size 59 ie (.slice none 0 0) 1 24 Try.underlying22 hie hz0 hz1 hz2 rfl (by decide) _ 0 [] rfl (World.ownsRow_nil _ _ _ _) ⟨X.heap.size, 0, none⟩ 1 1 [.slice none 0 0] rfl rfl (cell_one_new _ _ _) (by simp [Value.oneCell']) (by unfold maxLen; omega) (by omega) (by simp) ?_; (intro v5 w5 h51 h52 _ h53); obtain ⟨⟨gb, vc, rfl, hgb, hp5⟩, f5, ⟨z5, c5⟩, n5, m5, b5⟩ := HF5.out v5 w5 h51 h52; have HGb := TW.hide hgb; have HP5 := TW.hide hp5; have N5 := TW.hide n5; have M5 := TW.hide m5; have B5 := TW.hide b5; clear h51 h52 h53 hgb hp5 n5 m5 b5 HF5 s0 s1 s2 s3 s4)
 refine HK.out _ _ ?_
 clear HK f5 c5
 generalize World.setCell _ _ _ = Y at *
 obtain ⟨s0, s1, s2, s3, s4⟩ := cellsY5 M5.out
 have f4 : Y.frozen? ⟨g1, 4, none⟩ = false := by simp [World.frozen?, M5.out]
 have hg1 : w.heap.size ≤ g1 := by have := HG1.out; omega
 have M6 : Hid ((Y.setCell ⟨g1, 4, none⟩ (.int .i64 1)).heap[g1]? = some (.cells #[.slice (some ⟨gb, 0, none⟩) 1 vc, .slice none 0 0, .int .i64 0, .int .i64 0, .int .i64 1] 25 (0, 0))) := blk_set M5.out
 have N6 : Hid ((Y.setCell ⟨g1, 4, none⟩ (.int .i64 1)).heap[w.heap.size]? = some (.cells #[.slice none 0 0, .slice none 0 0, .int .i64 0, .int .i64 0, .int .i64 0] 25 (0, 0))) := by
  show _ = _
  rw [Below.heap_setCell _ _ _ _ (show w.heap.size ≠ g1 by have := HG1.out; omega)]
  exact N5.out
 have B6 : Hid (Below w.heap.size w (Y.setCell ⟨g1, 4, none⟩ (.int .i64 1))) := B5.out.setCell (p := ⟨g1, 4, none⟩) hg1 _
 have HP6 : Hid ((Y.setCell ⟨g1, 4, none⟩ (.int .i64 1)).cell? ⟨gb, 0, none⟩ = some (.slice none 0 0)) := by
  show _ = _
  rw [cell_of (show (Y.setCell ⟨g1, 4, none⟩ (.int .i64 1)).heap[gb]? = Y.heap[gb]? from Below.heap_setCell _ _ _ _ (show gb ≠ g1 by have := HG2.out; have := HGb.out; omega))]
  exact HP5.out
 clear N5 M5 B5 HP5
 refine wp_seq_k fun K hK => ?_
 have HK := TW.hide hK
 clear hK
 go_wp2
 refine HK.out _ _ ?_
 clear HK s0 s1 s2 s3 s4 f4
 generalize World.setCell _ _ _ = Z at *
 obtain ⟨s0, s1, s2, s3, s4⟩ := cellsY5 M6.out
 have HP7 : Hid ((Z.setRow w.heap.size #[.slice (some ⟨gb, 0, none⟩) 1 vc, .slice none 0 0, .int .i64 0, .int .i64 0, .int .i64 1]).cell? ⟨gb, 0, none⟩ = some (.slice none 0 0)) := by
  show _ = _
  rw [cell_of (setRow_other Z w.heap.size gb _ (by have := HG1.out; have := HG2.out; have := HGb.out; omega))]
  exact HP6.out
 have B7 : Hid (Below w.heap.size w (Z.setRow w.heap.size #[.slice (some ⟨gb, 0, none⟩) 1 vc, .slice none 0 0, .int .i64 0, .int .i64 0, .int .i64 1])) := below_setRow B6.out (Nat.le_refl _)
 have N7 := TW.hide (setRow_heap _ _ _ #[.slice (some ⟨gb, 0, none⟩) 1 vc, .slice none 0 0, .int .i64 0, .int .i64 0, .int .i64 1] _ _ N6.out)
 go_wp2_with (refine wpList_store_row (by rfl) 25 _ _ (by rfl) w.heap.size #[.slice (some ⟨gb, 0, none⟩) 1 vc, .slice none 0 0, .int .i64 0, .int .i64 0, .int .i64 1] (by rfl) (by rfl) 25 _ N6.out (by kernel_rfl) (by rfl) (by simp [Value.oneCell']) ?_; generalize World.setRow _ _ _ = V at *)
 refine bodyPost_ret (v := .agg #[.slice (some ⟨gb, 0, none⟩) 1 vc, .slice none 0 0, .int .i64 0, .int .i64 0, .int .i64 1]) (results_cell_row (P := Try.prog) Try.results9 _ _ w.heap.size 25 _ (0, 0) _ rfl N7.out Try.underlying25 rfl (by kernel_rfl)) rfl ?_
 refine ⟨_, vc, rfl, ⟨⟨.inr ⟨gb, 0, rfl, fun p hp => ?_⟩, .inl rfl⟩, by decide, by decide, fun p => by rw [sm_nil]; decide, fun p j => by rw [sm_nil]; exact ⟨i64_0, i64_0, i64_0, i64_0⟩⟩, B7.out⟩
 have hp : p = 0 := by simp [smT] at hp; omega
 subst hp
 exact ⟨none, 0, HP7.out, .inl rfl⟩
set_option maxRecDepth 100000 in
set_option maxHeartbeats 4000000 in
theorem lalive (w : World) : Calls Try.prog 4 #[] w fun e w' => e = .returned (.bool true) ∧ Below w.heap.size w w' := by
 obtain ⟨ie, hie, hz0, hz1, hz2⟩ := info_parts' evinfo
 have HBe : Hid (∀ pa pc a c W, SyI W smT pa none → EvI W a c smL → Calls Try.prog 8 #[.agg #[.slice pa 1 pc, .slice none 0 0, .int .i64 0, .int .i64 0, .int .i64 1], .slice a 2 c, .int .i64 0, .int .i64 1] W fun e w' => e = .returned (.tuple #[.bool true, .int .i64 0]) ∧ Below W.heap.size W w') := fun pa pc a c W h1 h2 => by
  have := ptbefore smT pa pc none 0 a c smL 0 1 W h1 h2
  rw [sm_be.1, sm_be.2] at this
  exact this
 have HF5 : Hid (∀ v5 w5, w5.ownsRow w.heap.size 41 5 v5 2 [.int .i64 0, .int .i64 16, .int .i64 0, .int .i64 0, .bool false, .int .i64 0, .int .i64 16, .int .i64 0, .int .i64 0, .bool false] → (w.alloc (.cells #[.int .i64 0, .int .i64 16, .int .i64 0, .int .i64 0, .bool false, .int .i64 0, .int .i64 16, .int .i64 0, .int .i64 0, .bool false] 41)).grownBy w5 none → (∃ a c, v5 = .slice a 2 c ∧ EvI w5 a c smL) ∧ Below w.heap.size w w5) := fun v5 w5 h1 h2 => by
  have hA := (Below.refl w.heap.size w).alloc (Nat.le_refl _) (.cells #[.int .i64 0, .int .i64 16, .int .i64 0, .int .i64 0, .bool false, .int .i64 0, .int .i64 16, .int .i64 0, .int .i64 0, .bool false] 41)
  obtain ⟨a, c, e, h3, h4, h5, h6⟩ := er_own5 (l := smL) (B := w.heap.size) h1
  refine ⟨⟨a, c, e, ⟨h3, fun j => ?_, h4, h5, h6⟩⟩, hA.trans (((Below.refl _ _).grown h2 (Nat.le_refl _) (by intro k h; cases h)).mono hA.size)⟩
  have he : Tr.ev smL j = ⟨0, 16, 0, 0, false⟩ ∨ Tr.ev smL j = Tr.e0 := by
   rcases j with _ | _ | j
   ·exact .inl rfl
   ·exact .inl rfl
   ·exact .inr rfl
  rcases he with he | he <;> rw [he]
  ·refine ⟨i64_0, ?_, i64_0, i64_0⟩
   show i64 16
   unfold i64; omega
  ·exact iEv_0
 go_enter Try.func4, Try.ntmps4
 refine wp_seq_k fun K hK => ?_
 have HK := TW.hide hK
 clear hK
 go_wp2
 refine HK.out _ _ ?_
 clear HK
 refine wp_seq_k fun K hK => ?_
 have HK := TW.hide hK
 clear hK
 go_wp2
 refine HK.out _ _ ?_
 clear HK
 refine wp_seq_k fun K hK => ?_
 have HK := TW.hide hK
 clear hK
 go_wp2_with (at_builtin; refine wpList_append_own_at _ rfl _ _ 30 rfl w.heap.size 41 ie _ 5 40 Try.underlying30 hie hz0 hz1 hz2 rfl (by decide) _ 0 [] rfl (World.ownsRow_nil _ _ _ _) ⟨w.heap.size, 0, none⟩ 2 2 [.int .i64 0, .int .i64 16, .int .i64 0, .int .i64 0, .bool false, .int .i64 0, .int .i64 16, .int .i64 0, .int .i64 0, .bool false] rfl rfl (cells_ten _ _ _ _ _ _ _ _ _ _ _ _) (by simp [Value.oneCell']) (by unfold maxLen; omega) (by omega) (by simp) ?_; (intro v5 w5 h51 h52 _ h53); obtain ⟨⟨a5, c5, rfl, he5⟩, b5⟩ := HF5.out v5 w5 h51 h52; have HE5 := TW.hide he5; have B5 := TW.hide b5; clear h51 h52 h53 he5 b5 HF5)
 refine HK.out _ _ ?_
 clear HK
 refine wp_seq_k fun K hK => ?_
 have HK := TW.hide hK
 clear hK
 go_wp2_with fail
 refine (lsmall w5).mono ?_
 rintro e6 w6 ⟨pa, pc, rfl, hs6, hb6⟩
 have HB := TW.hide (HBe.out pa pc a5 c5 w6 hs6 (HE5.out.below hb6))
 have B6 : Hid (Below w.heap.size w w6) := B5.out.trans (hb6.mono B5.out.size)
 clear hs6 hb6 HBe HE5 B5
 go_wp2_with fail
 refine HB.out.mono ?_
 rintro e7 w7 ⟨rfl, hb7⟩
 have B7 : Hid (Below w.heap.size w w7) := B6.out.trans (hb7.mono B6.out.size)
 clear hb7 HB B6
 go_wp2
 refine HK.out _ _ ?_
 clear HK
 go_wp2
 go_ret
 exact ⟨rfl, B7.out⟩
end LW
end Go.Proofs.Ythgmmggpclmagaa
