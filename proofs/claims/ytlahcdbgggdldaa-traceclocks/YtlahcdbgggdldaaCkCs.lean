/-
  Ck8, Ck9 in one.
-/
import Derived.Test.YtlahcdbgggdldaaCk7s
import Derived.Test.YtlahcdbgggdldaaCpBs
import Derived.Test.YtlahcdbgggdldaaTv7s
namespace Go.Proofs.Ytlahcdbgggdldaa
open Go.RowKit
set_option linter.unusedVariables false
set_option linter.unusedSimpArgs false
namespace LW
open Mc
/-- What Clocks answers: the error. -/
def clE (s : Syst) (l : List Ev) : Int := if (Tr.vR s l).2.2 = 0 then (if 1048576 < l.length * Tr.rnC l then 2 else 0) else (Tr.vR s l).2.2
end LW
end Go.Proofs.Ytlahcdbgggdldaa
namespace Go.Proofs.Ytlahcdbgggdldaa
open List renaming setIfInBounds_toArray → lpA, set_cons_zero → lpZ, set_cons_succ → lpS, getElem_toArray → lgT, getElem_cons_zero → lgZ, getElem_cons_succ → lgS
open Go.RowKit
set_option linter.unusedVariables false
set_option linter.unusedSimpArgs false
namespace LW
open Mc
set_option maxRecDepth 100000 in
set_option maxHeartbeats 4000000 in
theorem ptclocks (s : Syst) (pa : Option Addr) (pc : Nat) (ra : Option Addr) (rc : Nat) (la : Option Addr) (lc : Nat) (l : List Ev) (w : World) (hs : SyI w s pa ra) (hl : EvI w la lc l) :
  Calls Try.prog 11 #[.agg #[.slice pa s.progs.length pc, .slice ra s.rooms.length rc, .int .i64 s.groups, .int .i64 s.locks, .int .i64 s.cells], .slice la l.length lc] w (fun e w' => (clE s l ≠ 0 → e = .returned (.tuple #[.slice none 0 0, .int .i64 (clE s l)])) ∧ (clE s l = 0 → ∃ o G ag hs v, e = .returned (.tuple #[v Oc.li, .int .i64 0]) ∧ w.heap.size ≤ o.heap.size ∧ CM o w' G l.length (fun j => if j < l.length then clL s l 0 (Tr.rnC l) j else []) ag hs v) ∧ Below w.heap.size w w') := by
 obtain ⟨POST, hP⟩ : ∃ Q : Ending → World → Prop, Q = fun e w' => (clE s l ≠ 0 → e = .returned (.tuple #[.slice none 0 0, .int .i64 (clE s l)])) ∧ (clE s l = 0 → ∃ o G ag hs v, e = .returned (.tuple #[v Oc.li, .int .i64 0]) ∧ w.heap.size ≤ o.heap.size ∧ CM o w' G l.length (fun j => if j < l.length then clL s l 0 (Tr.rnC l) j else []) ag hs v) ∧ Below w.heap.size w w' := ⟨_, rfl⟩
 obtain ⟨va, vn, ve, hV⟩ : ∃ a n e, Tr.vR s l = (a, n, e) := ⟨_, _, _, rfl⟩
 have HRd : Hid (∀ W, Below w.heap.size w W → Calls Try.prog 19 #[.agg #[.slice pa s.progs.length pc, .slice ra s.rooms.length rc, .int .i64 s.groups, .int .i64 s.locks, .int .i64 s.cells], .slice la l.length lc] W fun e w' => ∃ hc, e = .returned (.tuple #[.agg hc, .int .i64 va, .int .i64 ve]) ∧ (ve = 0 → hc = #[.slice pa s.progs.length pc, .slice ra s.rooms.length rc, .int .i64 s.groups, .int .i64 s.locks, .int .i64 s.cells, .slice la l.length lc, .int .i64 (Tr.rnC l : Int)]) ∧ (ve ≠ 0 → hc = #[.slice none 0 0, .slice none 0 0, .int .i64 0, .int .i64 0, .int .i64 0, .slice none 0 0, .int .i64 0]) ∧ Below W.heap.size W w') := fun W hW => (pread s pa pc ra rc la lc l W (hs.below hW) (hl.below hW)).mono (fun e w' h => by unfold ReaQ at h; rw [hV] at h; exact h)
 have HOk : Hid (ve = 0 → Ok s ∧ l.length ≤ 40000 ∧ Tr.Gd s l l.length) := fun h => by
  have h2 := Tr.vR_ok (s := s) (l := l) (by rw [hV]; exact h)
  exact ⟨h2.1, h2.2.1, h2.2.2.1⟩
 have HPe : Hid (ve ≠ 0 → ∀ W, Below w.heap.size w W → POST (.returned (.tuple #[.slice none 0 0, .int .i64 ve])) W) := fun h W hW => by
  rw [hP]
  have h1 : clE s l = ve := by unfold clE; rw [hV]; exact if_neg h
  rw [h1]
  exact ⟨fun _ => rfl, fun x => absurd x h, hW⟩
 have HPa : Hid (ve = 0 → 1048576 < l.length * Tr.rnC l → ∀ W, Below w.heap.size w W → POST (.returned (.tuple #[.slice none 0 0, .int .i64 2])) W) := fun h hi W hW => by
  rw [hP]
  have h1 : clE s l = 2 := by unfold clE; rw [hV]; dsimp only; rw [if_pos h, if_pos hi]
  rw [h1]
  exact ⟨fun _ => rfl, fun x => absurd x (by decide), hW⟩
 have HPo : Hid (ve = 0 → ¬ 1048576 < l.length * Tr.rnC l → ∀ W, (∃ o G ag hs v, (∀ u, u = v Oc.li → POST (.returned (.tuple #[u, .int .i64 0])) W → POST (.returned (.tuple #[u, .int .i64 0])) W) ∧ w.heap.size ≤ o.heap.size ∧ CM o W G l.length (fun j => if j < l.length then clL s l 0 (Tr.rnC l) j else []) ag hs v) → Below w.heap.size w W → ∀ o G ag hs v, w.heap.size ≤ o.heap.size → CM o W G l.length (fun j => if j < l.length then clL s l 0 (Tr.rnC l) j else []) ag hs v → POST (.returned (.tuple #[v Oc.li, .int .i64 0])) W) := fun h hi W _ hW o G ag hs v ho hm => by
  rw [hP]
  have h1 : clE s l = 0 := by unfold clE; rw [hV]; dsimp only; rw [if_pos h, if_neg hi]
  rw [h1]
  exact ⟨fun x => absurd rfl x, fun _ => ⟨o, G, ag, hs, v, rfl, ho, hm⟩, hW⟩
 rw [← hP]
 have HEw := TW.hide hl
 have HSw := TW.hide hs
 clear hP hs hl hV
 have hA : Below w.heap.size w (w.alloc (.cells #[.slice pa s.progs.length pc, .slice ra s.rooms.length rc, .int .i64 s.groups, .int .i64 s.locks, .int .i64 s.cells] 25)) := (Below.refl _ _).alloc (Nat.le_refl _) _
 have N1 : Hid ((w.alloc (.cells #[.slice pa s.progs.length pc, .slice ra s.rooms.length rc, .int .i64 s.groups, .int .i64 s.locks, .int .i64 s.cells] 25)).heap[w.heap.size]? = some (.cells #[.slice pa s.progs.length pc, .slice ra s.rooms.length rc, .int .i64 s.groups, .int .i64 s.locks, .int .i64 s.cells] 25 (0, 0))) := heap_alloc_new w _
 have NB := TW.hide hA
 clear hA
 go_enter Try.func11, Try.ntmps11
 refine wp_seq_k fun K hK => ?_
 have HK := TW.hide hK
 clear hK
 go_wp2
 refine HK.out _ _ ?_
 clear HK K
 generalize w.alloc _ = X at *
 obtain ⟨s0, s1, s2, s3, s4⟩ := cellsY5 N1.out
 go_wp2_with fail
 refine (HRd.out X NB.out).mono ?_
 rintro e1 W1 ⟨hc, rfl, h1, h2, hb⟩
 have NB1 : Hid (Below w.heap.size w W1) := NB.out.trans (hb.mono NB.out.size)
 have NS := TW.hide (blk_keep N1.out hb)
 clear hb NB N1 s0 s1 s2 s3 s4 HRd
 by_cases he : ve = 0
 ·obtain rfl := h1 he
  obtain ⟨ho, hn, hg⟩ := HOk.out he
  have NB2 : Hid (Below w.heap.size w ((W1.alloc (.cells #[.slice none 0 0, .slice none 0 0, .int .i64 0, .int .i64 0, .int .i64 0, .slice none 0 0, .int .i64 0] 57)).setRow W1.heap.size #[.slice pa s.progs.length pc, .slice ra s.rooms.length rc, .int .i64 s.groups, .int .i64 s.locks, .int .i64 s.cells, .slice la l.length lc, .int .i64 (Tr.rnC l : Int)])) := below_setRow (NB1.out.alloc NB1.out.size _) NB1.out.size
  have hA_ : Below W1.heap.size W1 ((W1.alloc (.cells #[.slice none 0 0, .slice none 0 0, .int .i64 0, .int .i64 0, .int .i64 0, .slice none 0 0, .int .i64 0] 57)).setRow W1.heap.size #[.slice pa s.progs.length pc, .slice ra s.rooms.length rc, .int .i64 s.groups, .int .i64 s.locks, .int .i64 s.cells, .slice la l.length lc, .int .i64 (Tr.rnC l : Int)]) := below_setRow ((Below.refl _ _).alloc (Nat.le_refl _) _) (Nat.le_refl _)
  have NS2 := TW.hide (blk_keep NS.out hA_)
  have N2 : Hid (((W1.alloc (.cells #[.slice none 0 0, .slice none 0 0, .int .i64 0, .int .i64 0, .int .i64 0, .slice none 0 0, .int .i64 0] 57)).setRow W1.heap.size #[.slice pa s.progs.length pc, .slice ra s.rooms.length rc, .int .i64 s.groups, .int .i64 s.locks, .int .i64 s.cells, .slice la l.length lc, .int .i64 (Tr.rnC l : Int)]).heap[W1.heap.size]? = some (.cells #[.slice pa s.progs.length pc, .slice ra s.rooms.length rc, .int .i64 s.groups, .int .i64 s.locks, .int .i64 s.cells, .slice la l.length lc, .int .i64 (Tr.rnC l : Int)] 57 (0, 0))) := setRow_heap _ _ _ _ _ _ (heap_alloc_new W1 _)
  clear hA_ NS
  have hr5 : Tr.rnC l ≤ 512 := by
   have := Tr.rnC_le l.length (Nat.le_refl _) hg
   rw [List.take_length] at this
   exact this
  have HLk : Hid (∀ W, Below w.heap.size w W → Calls Try.prog 24 #[.agg #[.slice pa s.progs.length pc, .slice ra s.rooms.length rc, .int .i64 s.groups, .int .i64 s.locks, .int .i64 s.cells, .slice la l.length lc, .int .i64 (Tr.rnC l : Int)]] W (LnQ W s l)) := fun W hW => plinks s pa pc ra rc la lc l W (HSw.out.below hW) (HEw.out.below hW) ho hg hn
  have HCl : Hid (∀ a c ed W, Below w.heap.size w W → EgR W a c ed → Ord ed → (∀ x, x ∈ ed ↔ x ∈ Tr.edF s l l.length) → Calls Try.prog 23 #[.agg #[.slice pa s.progs.length pc, .slice ra s.rooms.length rc, .int .i64 s.groups, .int .i64 s.locks, .int .i64 s.cells, .slice la l.length lc, .int .i64 (Tr.rnC l : Int)], .slice a ed.length c, .agg #[.int .i64 0, .int .i64 (Tr.rnC l : Int)]] W (CkQ W s l 0 (Tr.rnC l))) := fun a c ed W hW h1 h2 h3 => pclocks s pa pc ra rc la lc l 0 (Tr.rnC l) a c ed W (HEw.out.below hW) ho hg hn (by omega) (by omega) h1 h2 h3
  have wm : IntKind.i64.wrap ((l.length : Int) * (Tr.rnC l : Int)) = ((l.length * Tr.rnC l : Nat) : Int) := by
   have h9 : l.length * Tr.rnC l ≤ 40000 * 512 := Nat.mul_le_mul hn hr5
   rw [IntKind.wrap_i64, ← Int.natCast_mul]
   omega
  have HPa' := TW.hide (HPa.out he)
  have HPo' := TW.hide (fun h W hW o G ag hs v h1 h2 => HPo.out he h W ⟨o, G, ag, hs, v, fun _ _ x => x, h1, h2⟩ hW o G ag hs v h1 h2)
  subst he
  clear h1 h2 ho hn hg HOk HPe HPa HPo HEw HSw hr5
  by_cases hbig : 1048576 < l.length * Tr.rnC l
  ·have kb : (1048576 : Int) < ((l.length * Tr.rnC l : Nat) : Int) := by omega
   have HP2 := TW.hide (HPa'.out hbig)
   clear hbig HPa' HPo' HLk HCl
   generalize l.length * Tr.rnC l = LR at *
   go_wp2_with (first | (refine wpList_store_row (by rfl) 57 _ _ (by rfl) W1.heap.size #[.slice pa s.progs.length pc, .slice ra s.rooms.length rc, .int .i64 s.groups, .int .i64 s.locks, .int .i64 s.cells, .slice la l.length lc, .int .i64 (Tr.rnC l : Int)] (by rfl) (by rfl) 57 _ (heap_alloc_new W1 _) (by kernel_rfl) (by rfl) (by simp [Value.oneCell']) ?_; generalize World.setRow _ _ _ = X2 at *; generalize W1.heap.size = g2 at *; obtain ⟨q0, q1, q2, q3, q4, q5, q6⟩ := cellsY7 N2.out; obtain ⟨r0, r1, r2, r3, r4⟩ := cellsY5 NS2.out) | fail)
   have HR := TW.hide (HP2.out X2 NB2.out)
   first | exact HR.out | exact ⟨rfl, HR.out⟩
  ·have kb : ((1048576 : Int) < ((l.length * Tr.rnC l : Nat) : Int)) = False := by simp; omega
   have HP2 := TW.hide (HPo'.out hbig)
   clear hbig HPa' HPo'
   generalize l.length * Tr.rnC l = LR at *
   go_wp2_with (first | (refine wpList_store_row (by rfl) 57 _ _ (by rfl) W1.heap.size #[.slice pa s.progs.length pc, .slice ra s.rooms.length rc, .int .i64 s.groups, .int .i64 s.locks, .int .i64 s.cells, .slice la l.length lc, .int .i64 (Tr.rnC l : Int)] (by rfl) (by rfl) 57 _ (heap_alloc_new W1 _) (by kernel_rfl) (by rfl) (by simp [Value.oneCell']) ?_; generalize World.setRow _ _ _ = X2 at *; generalize W1.heap.size = g2 at *; obtain ⟨q0, q1, q2, q3, q4, q5, q6⟩ := cellsY7 N2.out; obtain ⟨r0, r1, r2, r3, r4⟩ := cellsY5 NS2.out) | fail)
   clear q0 q1 q2 q3 q4 q5 q6 r0 r1 r2 r3 r4
   have HX : Hid (Below X2.heap.size X2 X2) := Below.refl _ _
   refine wp_region_noPanic ?_
   refine RG.wp_region_L (fun Z => True) (fun Z => Below X2.heap.size X2 Z) [] (by kernel_rfl) ?_
   refine RG.wpL_any fun Ya hY => ?_
   have HTa : Hid (Below X2.heap.size X2 Ya) := by rw [hY]; exact below_drewN HX.out 1
   clear hY
   refine RG.wpL_take (fuel := 4) (a' := ?Aa) [0, 1, 3, 4, 5] (by kernel_rfl) (by kernel_rfl) (fun _ _ _ _ _ h => h) HTa.out (fun _ => trivial) ?ra ?_
   case ra =>
    iterate 2
     refine RG.RunsIf.weak (v := .agg #[.slice pa s.progs.length pc, .slice ra s.rooms.length rc, .int .i64 s.groups, .int .i64 s.locks, .int .i64 s.cells, .slice la l.length lc, .int .i64 (Tr.rnC l : Int)]) (by rfl) (by rfl) (fun Z hT => ?_) ?_
     ·obtain ⟨q0, q1, q2, q3, q4, q5, q6⟩ := cellsY7 (blk_keep N2.out hT)
      go_simp
     simp only [Act.put, lpA, lpZ, lpS, lgT, lgZ, lgS]
    refine RG.RunsIf.weak (v := ?_) (by rfl) (by rfl) (fun Z hT => ?_) ?_
    rotate_left
    ·go_simp
     rfl
    simp only [Act.put, lpA, lpZ, lpS, lgT, lgZ, lgS]
    refine RG.RunsIf.weak (v := .int .i64 (Tr.rnC l : Int)) (by rfl) (by rfl) (fun Z hT => ?_) ?_
    ·obtain ⟨q0, q1, q2, q3, q4, q5, q6⟩ := cellsY7 (blk_keep N2.out hT)
     go_simp
    simp only [Act.put, lpA, lpZ, lpS, lgT, lgZ, lgS]
    refine RG.RunsIf.weak (v := .agg #[.int .i64 0, .int .i64 (Tr.rnC l : Int)]) (by rfl) (by rfl) (fun Z hT => ?_) ?_
    ·go_simp
    simp only [Act.put, lpA, lpZ, lpS, lgT, lgZ, lgS]
    exact RG.RunsIf.nil
   refine RG.wpL_step (i := 2) (by kernel_rfl) (by rfl) (by rfl) (fun KX hK => ?_)
   have HK := TW.hide hK
   clear hK
   go_simp
   refine (HLk.out Ya (NB2.out.trans (HTa.out.mono NB2.out.size))).mono ?_
   rintro e_Wa Wa ⟨v1, ed, rfl, hv1, hor, hme, hb⟩
   have HTb : Hid (Below X2.heap.size X2 Wa) := HTa.out.trans (hb.mono HTa.out.size)
   obtain ⟨ea, ec, rfl, hEg⟩ := EgR.of hv1
   clear hv1
   refine HK.out _ _ HTb.out (fun _ => trivial) ?_
   clear HK KX hb
   try simp only [Act.put, lpA, lpZ, lpS, lgT, lgZ, lgS]
   refine RG.wpL_step (i := 6) (by kernel_rfl) (by rfl) (by rfl) (fun KX hK => ?_)
   have HK := TW.hide hK
   clear hK
   go_simp
   refine (HCl.out ea ec ed Wa (NB2.out.trans (HTb.out.mono NB2.out.size)) hEg hor hme).mono ?_
   rintro e_Wb Wb ⟨oo, G, ag, hs, vv, rfl, hoo, hcm, hb⟩
   have HTc : Hid (Below X2.heap.size X2 Wb) := HTb.out.trans (hb.mono HTb.out.size)
   have HR := TW.hide (HP2.out Wb (NB2.out.trans ((HTb.out.trans (hb.mono HTb.out.size)).mono NB2.out.size)) oo G ag hs vv (Nat.le_trans (NB2.out.trans (HTb.out.mono NB2.out.size)).size hoo) hcm)
   obtain ⟨la_, lc_, el⟩ := own_openE (hcm.fam.own Oc.li)
   have el : vv Oc.li = .slice la_ l.length lc_ := el
   rw [el] at HR ⊢
   clear hcm el
   refine HK.out _ _ HTc.out (fun _ => trivial) ?_
   clear HK KX hb
   try simp only [Act.put, lpA, lpZ, lpS, lgT, lgZ, lgS]
   refine RG.wpL_take (fuel := 0) (a' := ?Aax) [7, 8] (by kernel_rfl) (by kernel_rfl) (fun _ _ _ _ _ h => h) HTc.out (fun _ => trivial) ?rax ?_
   case rax =>
    iterate 2
     refine RG.RunsIf.weak (v := ?_) (by rfl) (by rfl) (fun Z hT => ?_) ?_
     rotate_left
     ·go_simp
      rfl
     simp only [Act.put, lpA, lpZ, lpS, lgT, lgZ, lgS]
    exact RG.RunsIf.nil
   refine RG.wpL_done (by kernel_rfl) ?_ _
   refine NoPanic.normal ?_
   go_wp2
   first | exact HR.out | exact ⟨rfl, HR.out⟩
 ·obtain rfl := h2 he
  have NB2 : Hid (Below w.heap.size w ((W1.alloc (.cells #[.slice none 0 0, .slice none 0 0, .int .i64 0, .int .i64 0, .int .i64 0, .slice none 0 0, .int .i64 0] 57)).setRow W1.heap.size #[.slice none 0 0, .slice none 0 0, .int .i64 0, .int .i64 0, .int .i64 0, .slice none 0 0, .int .i64 0])) := below_setRow (NB1.out.alloc NB1.out.size _) NB1.out.size
  have hA_ : Below W1.heap.size W1 ((W1.alloc (.cells #[.slice none 0 0, .slice none 0 0, .int .i64 0, .int .i64 0, .int .i64 0, .slice none 0 0, .int .i64 0] 57)).setRow W1.heap.size #[.slice none 0 0, .slice none 0 0, .int .i64 0, .int .i64 0, .int .i64 0, .slice none 0 0, .int .i64 0]) := below_setRow ((Below.refl _ _).alloc (Nat.le_refl _) _) (Nat.le_refl _)
  have NS2 := TW.hide (blk_keep NS.out hA_)
  have N2 : Hid (((W1.alloc (.cells #[.slice none 0 0, .slice none 0 0, .int .i64 0, .int .i64 0, .int .i64 0, .slice none 0 0, .int .i64 0] 57)).setRow W1.heap.size #[.slice none 0 0, .slice none 0 0, .int .i64 0, .int .i64 0, .int .i64 0, .slice none 0 0, .int .i64 0]).heap[W1.heap.size]? = some (.cells #[.slice none 0 0, .slice none 0 0, .int .i64 0, .int .i64 0, .int .i64 0, .slice none 0 0, .int .i64 0] 57 (0, 0))) := setRow_heap _ _ _ _ _ _ (heap_alloc_new W1 _)
  clear hA_ NS
  have HPe' := TW.hide (HPe.out he)
  have kv : (ve != 0) = true := by simp [he]
  clear he h1 h2 HOk HPe HPa HPo HEw HSw
  go_wp2_with (first | (refine wpList_store_row (by rfl) 57 _ _ (by rfl) W1.heap.size #[.slice none 0 0, .slice none 0 0, .int .i64 0, .int .i64 0, .int .i64 0, .slice none 0 0, .int .i64 0] (by rfl) (by rfl) 57 _ (heap_alloc_new W1 _) (by kernel_rfl) (by rfl) (by simp [Value.oneCell']) ?_; generalize World.setRow _ _ _ = X2 at *; generalize W1.heap.size = g2 at *; obtain ⟨q0, q1, q2, q3, q4, q5, q6⟩ := cellsY7 N2.out; obtain ⟨r0, r1, r2, r3, r4⟩ := cellsY5 NS2.out) | fail)
  have HR := TW.hide (HPe'.out X2 NB2.out)
  first | exact HR.out | exact ⟨rfl, HR.out⟩
end LW
end Go.Proofs.Ytlahcdbgggdldaa
