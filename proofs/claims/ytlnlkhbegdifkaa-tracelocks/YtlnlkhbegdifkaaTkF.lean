/-
  What heldAt tells.
-/
import Derived.Test.YtlnlkhbegdifkaaTkE
namespace Go.Proofs.Ytlnlkhbegdifkaa
open Go.RowKit
set_option linter.unusedVariables false
set_option linter.unusedSimpArgs false
namespace LW
open Mc
set_option maxRecDepth 100000 in
set_option maxHeartbeats 4000000 in
theorem pclA (s : Syst) (pa : Option Addr) (pc : Nat) (ra : Option Addr) (rc : Nat) (la : Option Addr) (lc : Nat) (l : List Ev) (rn : Int) (g1 g2 g3 i bm : Nat) (p : List Ev) (x : Int) (w : World) (h1 : w.heap[g1]? = some (.cells #[.map (some bm)] 60 (0, 0))) (h2 : w.heap[g2]? = some (.cells #[.slice pa s.progs.length pc, .slice ra s.rooms.length rc, .int .i64 s.groups, .int .i64 s.locks, .int .i64 s.cells, .slice la l.length lc, .int .i64 rn] 44 (0, 0))) (h3 : w.heap[g3]? = some (.cells #[.int .i64 (i : Int)] 3 (0, 0))) (he : EvI w la lc l) (hm : MpI w bm p) (hi : i < l.length) (hx : i64 x) :
    Calls Try.prog 33 #[.int .i64 x, .pointer (some ⟨g1, 0, none⟩), .pointer (some ⟨g2, 0, none⟩), .pointer (some ⟨g3, 0, none⟩)] w fun e w' => e = .returned (.bool (!decide (Tr.hdC p x = some (Tr.ev l i).who))) ∧ Below w.heap.size w w' := by
  obtain ⟨b, off, who, op, a, va, sh, hla, hev, _, _, _, _, x0, _, _, _, _⟩ := he.get i hi
  subst hla
  rw [hev]
  dsimp only
  have HBy : Hid (∀ W, MpI W bm p → Calls Try.prog 34 #[.map (some bm), .int .i64 who, .int .i64 x] W fun e w' => e = .returned (.bool (decide (Tr.hdC p x = some who))) ∧ Below W.heap.size W w') := fun W hW => pby bm p who x W hW hx
  have HM := TW.hide hm
  have q1 : w.cell? ⟨g1, 0, none⟩ = some (.map (some bm)) := blk_cell h1 rfl
  have q2 : w.cell? ⟨g2, 5, none⟩ = some (.slice (some ⟨b, off, none⟩) l.length lc) := blk_cell h2 rfl
  have q3 : w.cell? ⟨g3, 0, none⟩ = some (.int .i64 (i : Int)) := blk_cell h3 rfl
  have hi1 : (i : Int) < (l.length : Int) := by omega
  have hi0 : (0 : Int) ≤ (i : Int) := by omega
  generalize decide (Tr.hdC p x = some who) = dd at *
  have HX : Hid (Below w.heap.size w w) := Below.refl _ _
  clear h1 h2 h3 he hm hev hi
  go_enter Try.func33, Try.ntmps33
  go_wp2
  refine wp_region_noPanic ?_
  refine RG.wp_region_L (fun Z => True) (fun Z => Below w.heap.size w Z) [] (by kernel_rfl) ?_
  refine RG.wpL_any fun Ya hY => ?_
  have HTa : Hid (Below w.heap.size w Ya) := by rw [hY]; exact below_drewN HX.out 1
  clear hY
  refine RG.wpL_take (fuel := 3) (a' := ?Aa) [0, 1, 2, 3, 4, 5, 6, 7] (by kernel_rfl) (by kernel_rfl) (fun _ _ _ _ _ h => h) HTa.out (fun _ => trivial) ?ra ?_
  case ra =>
    refine RG.RunsIf.weak (v := .map (some bm)) (by rfl) (by rfl) (fun Z hT => ?_) ?_
    · have q1 := keepC hT q1; have q2 := keepC hT q2; have q3 := keepC hT q3; have x0 := keepC hT x0
      go_simp
    simp only [Act.put, List.setIfInBounds_toArray, List.set_cons_zero, List.set_cons_succ, List.getElem_toArray, List.getElem_cons_zero, List.getElem_cons_succ]
    refine RG.RunsIf.weak (v := ?_) (by rfl) (by rfl) (fun Z hT => ?_) ?_
    rotate_left
    · go_simp
      rfl
    simp only [Act.put, List.setIfInBounds_toArray, List.set_cons_zero, List.set_cons_succ, List.getElem_toArray, List.getElem_cons_zero, List.getElem_cons_succ]
    refine RG.RunsIf.weak (v := .slice (some ⟨b, off, none⟩) l.length lc) (by rfl) (by rfl) (fun Z hT => ?_) ?_
    · have q1 := keepC hT q1; have q2 := keepC hT q2; have q3 := keepC hT q3; have x0 := keepC hT x0
      go_simp
    simp only [Act.put, List.setIfInBounds_toArray, List.set_cons_zero, List.set_cons_succ, List.getElem_toArray, List.getElem_cons_zero, List.getElem_cons_succ]
    refine RG.RunsIf.weak (v := .int .i64 (i : Int)) (by rfl) (by rfl) (fun Z hT => ?_) ?_
    · have q1 := keepC hT q1; have q2 := keepC hT q2; have q3 := keepC hT q3; have x0 := keepC hT x0
      go_simp
    simp only [Act.put, List.setIfInBounds_toArray, List.set_cons_zero, List.set_cons_succ, List.getElem_toArray, List.getElem_cons_zero, List.getElem_cons_succ]
    refine RG.RunsIf.weak (v := ?_) (by rfl) (by rfl) (fun Z hT => ?_) ?_
    rotate_left
    · go_simp
      rfl
    simp only [Act.put, List.setIfInBounds_toArray, List.set_cons_zero, List.set_cons_succ, List.getElem_toArray, List.getElem_cons_zero, List.getElem_cons_succ]
    refine RG.RunsIf.weak (v := ?_) (by rfl) (by rfl) (fun Z hT => ?_) ?_
    rotate_left
    · go_simp
      rfl
    simp only [Act.put, List.setIfInBounds_toArray, List.set_cons_zero, List.set_cons_succ, List.getElem_toArray, List.getElem_cons_zero, List.getElem_cons_succ]
    refine RG.RunsIf.weak (v := .int .i64 who) (by rfl) (by rfl) (fun Z hT => ?_) ?_
    · have q1 := keepC hT q1; have q2 := keepC hT q2; have q3 := keepC hT q3; have x0 := keepC hT x0
      go_simp
    simp only [Act.put, List.setIfInBounds_toArray, List.set_cons_zero, List.set_cons_succ, List.getElem_toArray, List.getElem_cons_zero, List.getElem_cons_succ]
    refine RG.RunsIf.weak (v := ?_) (by rfl) (by rfl) (fun Z hT => ?_) ?_
    rotate_left
    · go_simp
      rfl
    simp only [Act.put, List.setIfInBounds_toArray, List.set_cons_zero, List.set_cons_succ, List.getElem_toArray, List.getElem_cons_zero, List.getElem_cons_succ]
    exact RG.RunsIf.nil
  refine RG.wpL_step (i := 8) (by kernel_rfl) (by rfl) (by rfl) (fun KX hK => ?_)
  have HK := TW.hide hK
  clear hK
  go_simp
  refine (HBy.out Ya (HM.out.below HTa.out)).mono ?_
  rintro e_W1 W1 ⟨rfl, hb⟩
  have HT1 : Hid (Below w.heap.size w W1) := HTa.out.trans (hb.mono HTa.out.size)
  refine HK.out _ _ HT1.out (fun _ => trivial) ?_
  clear HK KX hb
  try simp only [Act.put, List.setIfInBounds_toArray, List.set_cons_zero, List.set_cons_succ, List.getElem_toArray, List.getElem_cons_zero, List.getElem_cons_succ]
  refine RG.wpL_take (fuel := 0) (a' := ?Aax) [9, 10] (by kernel_rfl) (by kernel_rfl) (fun _ _ _ _ _ h => h) HT1.out (fun _ => trivial) ?rax ?_
  case rax =>
    refine RG.RunsIf.weak (v := ?_) (by rfl) (by rfl) (fun Z hT => ?_) ?_
    rotate_left
    · go_simp
      rfl
    simp only [Act.put, List.setIfInBounds_toArray, List.set_cons_zero, List.set_cons_succ, List.getElem_toArray, List.getElem_cons_zero, List.getElem_cons_succ]
    refine RG.RunsIf.weak (v := ?_) (by rfl) (by rfl) (fun Z hT => ?_) ?_
    rotate_left
    · go_simp
      rfl
    simp only [Act.put, List.setIfInBounds_toArray, List.set_cons_zero, List.set_cons_succ, List.getElem_toArray, List.getElem_cons_zero, List.getElem_cons_succ]
    exact RG.RunsIf.nil
  refine RG.wpL_done (by kernel_rfl) ?_ _
  refine NoPanic.normal ?_
  go_wp2
  go_ret
  exact ⟨rfl, HT1.out⟩
/-- The locks that a runner holds behind a list. -/
def hoL (L : Nat) (p : List Ev) (who : Int) : List Int := (lkL L).filter (fun x => decide (Tr.hdC p x = some who))
set_option maxRecDepth 100000 in
set_option maxHeartbeats 4000000 in
theorem pheldAt (s : Syst) (pa : Option Addr) (pc : Nat) (ra : Option Addr) (rc : Nat) (la : Option Addr) (lc : Nat) (l : List Ev) (rn : Int) (L i : Nat) (w : World) (hl : EvI w la lc l) (hL : s.locks = (L : Int)) (hL6 : L ≤ 64) (hi : i < l.length) (hln : l.length ≤ 40000) :
    Calls Try.prog 19 #[.agg #[.slice pa s.progs.length pc, .slice ra s.rooms.length rc, .int .i64 s.groups, .int .i64 s.locks, .int .i64 s.cells, .slice la l.length lc, .int .i64 rn], .int .i64 (i : Int)] w fun e w' => ∃ b, e = .returned (.slice (some ⟨b, 0, none⟩) (hoL L (l.take i) (Tr.ev l i).who).length L) ∧ Nr w.heap.size w' b L (hoL L (l.take i) (Tr.ev l i).who) ∧ Below w.heap.size w w' := by
  obtain ⟨POST, hP⟩ : ∃ Q : Ending → World → Prop, Q = fun e w' => ∃ b, e = .returned (.slice (some ⟨b, 0, none⟩) (hoL L (l.take i) (Tr.ev l i).who).length L) ∧ Nr w.heap.size w' b L (hoL L (l.take i) (Tr.ev l i).who) ∧ Below w.heap.size w w' := ⟨_, rfl⟩
  have HP := TW.hide hP
  rw [← hP]
  clear hP
  have HLk : Hid (∀ W, Calls Try.prog 32 #[.agg #[.slice pa s.progs.length pc, .slice ra s.rooms.length rc, .int .i64 s.groups, .int .i64 s.locks, .int .i64 s.cells, .slice la l.length lc, .int .i64 rn]] W fun e w' => ∃ b, e = .returned (.slice (some ⟨b, 0, none⟩) L L) ∧ Nr W.heap.size w' b L (lkL L) ∧ Below W.heap.size W w') := fun W => plocks s pa pc ra rc la lc l rn L W hL hL6
  have HI := TW.hide hi
  have hb0 : Below w.heap.size w ((w.alloc (.cells #[.slice pa s.progs.length pc, .slice ra s.rooms.length rc, .int .i64 s.groups, .int .i64 s.locks, .int .i64 s.cells, .slice la l.length lc, .int .i64 rn] 44)).alloc (.cells #[.int .i64 (i : Int)] 3)) := ((Below.refl _ _).alloc (Nat.le_refl _) _).alloc (by simp) _
  have N1 : Hid (((w.alloc (.cells #[.slice pa s.progs.length pc, .slice ra s.rooms.length rc, .int .i64 s.groups, .int .i64 s.locks, .int .i64 s.cells, .slice la l.length lc, .int .i64 rn] 44)).alloc (.cells #[.int .i64 (i : Int)] 3)).heap[w.heap.size]? = some (.cells #[.slice pa s.progs.length pc, .slice ra s.rooms.length rc, .int .i64 s.groups, .int .i64 s.locks, .int .i64 s.cells, .slice la l.length lc, .int .i64 rn] 44 (0, 0))) := blk_alloc (heap_alloc_new w _)
  have N2 : Hid (((w.alloc (.cells #[.slice pa s.progs.length pc, .slice ra s.rooms.length rc, .int .i64 s.groups, .int .i64 s.locks, .int .i64 s.cells, .slice la l.length lc, .int .i64 rn] 44)).alloc (.cells #[.int .i64 (i : Int)] 3)).heap[w.heap.size + 1]? = some (.cells #[.int .i64 (i : Int)] 3 (0, 0))) := by
    have h1 := heap_alloc_new (w.alloc (.cells #[.slice pa s.progs.length pc, .slice ra s.rooms.length rc, .int .i64 s.groups, .int .i64 s.locks, .int .i64 s.cells, .slice la l.length lc, .int .i64 rn] 44)) (.cells #[.int .i64 (i : Int)] 3)
    have h2 : (w.alloc (.cells #[.slice pa s.progs.length pc, .slice ra s.rooms.length rc, .int .i64 s.groups, .int .i64 s.locks, .int .i64 s.cells, .slice la l.length lc, .int .i64 rn] 44)).heap.size = w.heap.size + 1 := by simp
    rw [h2] at h1
    exact h1
  have NB := TW.hide hb0
  have HEw := TW.hide hl
  clear hb0 hl hL
  have hmm := @run_makeMap Try.prog
  go_enter Try.func19, Try.ntmps19
  refine wp_seq_k fun K hK => ?_
  have HK := TW.hide hK
  clear hK
  go_wp2
  refine HK.out _ _ ?_
  clear HK K
  generalize World.alloc _ _ = X at *
  have hgX : w.heap.size + 1 < X.heap.size := blk_lt N2.out
  generalize hg3 : w.heap.size + 1 = g3 at *
  have HM0 : Hid (MpI ((X.alloc (.map #[] 0)).alloc (.cells #[.map (some X.heap.size)] 60)) X.heap.size []) := (MpI.made X).below ((Below.refl _ _).alloc (Nat.le_refl _) _)
  have hA2 : Below X.heap.size X ((X.alloc (.map #[] 0)).alloc (.cells #[.map (some X.heap.size)] 60)) := ((Below.refl _ _).alloc (Nat.le_refl _) _).alloc (by simp) _
  have N3 : Hid (((X.alloc (.map #[] 0)).alloc (.cells #[.map (some X.heap.size)] 60)).heap[X.heap.size + 1]? = some (.cells #[.map (some X.heap.size)] 60 (0, 0))) := by
    have h1 := heap_alloc_new (X.alloc (.map #[] 0)) (.cells #[.map (some X.heap.size)] 60)
    have h2 : (X.alloc (.map #[] 0)).heap.size = X.heap.size + 1 := by simp
    rw [h2] at h1
    exact h1
  refine wp_seq_k fun K hK => ?_
  have HK := TW.hide hK
  clear hK
  go_wp2
  refine HK.out _ _ ?_
  clear HK K
  have N1' := TW.hide (blk_keep N1.out hA2)
  have N2' := TW.hide (blk_keep N2.out hA2)
  have NB2 : Hid (Below w.heap.size w ((X.alloc (.map #[] 0)).alloc (.cells #[.map (some X.heap.size)] 60))) := NB.out.trans (hA2.mono NB.out.size)
  have HbM : Hid (w.heap.size ≤ X.heap.size) := NB.out.size
  clear hA2 N1 N2 NB hmm
  generalize World.alloc _ _ = X2 at *
  generalize X.heap.size + 1 = g5 at *
  generalize X.heap.size = bm at *
  have HKp : Hid (∀ W, X2.grownBy W (some bm) → W.heap[g5]? = some (.cells #[.map (some bm)] 60 (0, 0)) ∧ W.heap[w.heap.size]? = some (.cells #[.slice pa s.progs.length pc, .slice ra s.rooms.length rc, .int .i64 s.groups, .int .i64 s.locks, .int .i64 s.cells, .slice la l.length lc, .int .i64 rn] 44 (0, 0)) ∧ W.heap[g3]? = some (.cells #[.int .i64 (i : Int)] 3 (0, 0)) ∧ EvI W la lc l ∧ Below w.heap.size w W) := fun W hW => by
    have kb : Below w.heap.size w W := NB2.out.grown hW NB2.out.size (fun k hk => by injection hk with hk; have := HbM.out; omega)
    refine ⟨?_, ?_, ?_, HEw.out.below kb, kb⟩
    · rw [hW.block _ (blk_lt N3.out) (fun e => HM0.out.ne N3.out (by injection e with e; exact e.symm))]; exact N3.out
    · rw [hW.block _ (blk_lt N1'.out) (fun e => HM0.out.ne N1'.out (by injection e with e; exact e.symm))]; exact N1'.out
    · rw [hW.block _ (blk_lt N2'.out) (fun e => HM0.out.ne N2'.out (by injection e with e; exact e.symm))]; exact N2'.out
  clear N1' N2' N3 NB2
  obtain ⟨b, off, hla⟩ : ∃ b off, la = some ⟨b, off, none⟩ := by
    obtain ⟨b, off, _, _, _, _, _, h, _⟩ := HEw.out.get i hi
    exact ⟨b, off, h⟩
  have hlc := HEw.out.lc
  subst hla
  have HG0 : Hid (X2.grownBy X2 (some bm)) := ⟨rfl, rfl, rfl, Nat.le_refl _, fun _ _ _ => rfl⟩
  obtain ⟨n3, n1, n2, _, _⟩ := HKp.out X2 HG0.out
  have q2 : X2.cell? ⟨w.heap.size, 5, none⟩ = some (.slice (some ⟨b, off, none⟩) l.length lc) := blk_cell n1 rfl
  have q3 : X2.cell? ⟨g3, 0, none⟩ = some (.int .i64 (i : Int)) := blk_cell n2 rfl
  have hi0 : (0 : Int) ≤ (i : Int) := by omega
  have hi1 : (i : Int) ≤ (lc : Int) := by omega
  clear n1 n2 n3 hlc hi hgX hg3
  go_wp2
  clear q2 q3
  go_loopw [14] (fun a wr => ∃ k : Nat, k ≤ i ∧ a = .int .i64 (k : Int) ∧ Hid (MpI wr bm (l.take k)) ∧ Hid (X2.grownBy wr (some bm))) (fun a wr => i - (intOf a).toNat)
  case atStart => exact ⟨0, Nat.zero_le _, rfl, HM0, HG0⟩
  case round =>
    clear HM0 HG0
    obtain ⟨k, hk, rfl, HM, HG⟩ := hrel
    obtain ⟨n3, n1, n2, hE, hB⟩ := HKp.out wr HG.out
    by_cases hlt : k < i
    · have HLT := TW.hide hlt
      have hkl : k < l.length := by have := HI.out; omega
      obtain ⟨b', off', who, op, a, va, sh, hla, hev, iw, io, ia, iv, x0, x1, x2, x3, x4⟩ := hE.get k hkl
      injection hla with hla
      injection hla with h1 h2
      subst h1 h2
      have hk1 : (k : Int) < (i : Int) := by omega
      have hk0 : (0 : Int) ≤ (k : Int) := by omega
      have hk4 : k + 1 ≤ 40000 := by omega
      have hAl : Below wr.heap.size wr ((wr.alloc (.cells #[.int .i64 0, .int .i64 0, .int .i64 0, .int .i64 0, .bool false] 51)).setRow wr.heap.size #[.int .i64 who, .int .i64 op, .int .i64 a, .int .i64 va, .bool sh]) := below_setRow ((Below.refl _ _).alloc (Nat.le_refl _) _) (Nat.le_refl _)
      have HM1 := TW.hide (HM.out.below hAl)
      have HEb : Hid (((wr.alloc (.cells #[.int .i64 0, .int .i64 0, .int .i64 0, .int .i64 0, .bool false] 51)).setRow wr.heap.size #[.int .i64 who, .int .i64 op, .int .i64 a, .int .i64 va, .bool sh]).heap[wr.heap.size]? = some (.cells #[.int .i64 who, .int .i64 op, .int .i64 a, .int .i64 va, .bool sh] 51 (0, 0))) := setRow_heap _ _ _ _ _ _ (heap_alloc_new wr _)
      have HG1 : Hid (X2.grownBy ((wr.alloc (.cells #[.int .i64 0, .int .i64 0, .int .i64 0, .int .i64 0, .bool false] 51)).setRow wr.heap.size #[.int .i64 who, .int .i64 op, .int .i64 a, .int .i64 va, .bool sh]) (some bm)) := grown_below HG.out hAl
      have HTk : Hid (∀ W, MpI W bm (l.take k) → Calls Try.prog 30 #[.map (some bm), .agg #[.int .i64 who, .int .i64 op, .int .i64 a, .int .i64 va, .bool sh]] W fun e w' => e = .returned (.tuple #[]) ∧ MpI w' bm (l.take k ++ [⟨who, op, a, va, sh⟩]) ∧ W.grownBy w' (some bm)) := fun W hW => phtake bm (l.take k) who op a va sh W hW iw ia (by simp; omega)
      have HT1 : Hid (l.take (k + 1) = l.take k ++ [⟨who, op, a, va, sh⟩]) := by
        show _ = _
        rw [take_ev l k hkl, hev]
      clear hAl hev iw io ia iv hlt hkl n1 n2 n3 hE hB HM
      have hq5 : ((wr.alloc (.cells #[.int .i64 0, .int .i64 0, .int .i64 0, .int .i64 0, .bool false] 51)).setRow wr.heap.size #[.int .i64 who, .int .i64 op, .int .i64 a, .int .i64 va, .bool sh]).cell? ⟨g5, 0, none⟩ = some (.map (some bm)) := blk_cell (HKp.out _ HG1.out).1 rfl
      go_wp2_with (first | (refine wpList_store_row (by rfl) 51 _ _ (by rfl) wr.heap.size #[.int .i64 who, .int .i64 op, .int .i64 a, .int .i64 va, .bool sh] (by rfl) (by rfl) 51 _ (heap_alloc_new wr _) (by kernel_rfl) (by rfl) (by simp [Value.oneCell']) ?_; generalize World.setRow _ _ _ = X4 at *; generalize wr.heap.size = ge at *; clear x0 x1 x2 x3 x4; obtain ⟨x0, x1, x2, x3, x4⟩ := cellsY5 HEb.out) | fail)
      refine (HTk.out X4 HM1.out).mono ?_
      rintro e5 W5 ⟨rfl, hM5, hg5⟩
      rw [← HT1.out] at hM5
      have HM5 := TW.hide hM5
      have HG5 : Hid (X2.grownBy W5 (some bm)) := HG1.out.trans hg5
      clear hM5 hg5 x0 x1 x2 x3 x4 hq5 HTk HT1 HEb HM1 HG1 HG
      go_wp2
      go_roundw
      case rel => exact ⟨k + 1, HLT.out, by go_num, HM5, HG5⟩
      case measure => simp [intOf]; have := HLT.out; omega
    · obtain rfl : k = i := by omega
      obtain ⟨y0, y1, y2, y3, y4, y5, y6⟩ := cellsY7 n1
      have kk : ¬ (k : Int) < (k : Int) := by omega
      have HBw := TW.hide hB
      clear hE hB n1 n2 n3 hlt hk
      go_wp2_with fail
      refine (HLk.out wr).mono ?_
      rintro e5 W5 ⟨bb, rfl, hN, hb⟩
      have HN := TW.hide hN
      have HM5 := TW.hide (HM.out.below hb)
      have HG5 := TW.hide (grown_below HG.out hb)
      have HD : Hid (Calls Try.prog 31 #[.slice (some ⟨bb, 0, none⟩) L L, .func (.func 33) #[] #[.pointer (some ⟨g5, 0, none⟩), .pointer (some ⟨w.heap.size, 0, none⟩), .pointer (some ⟨g3, 0, none⟩)]] W5 (DelQ wr.heap.size W5 bb L ((lkL L).filter (fun x => !(!decide (Tr.hdC (l.take k) x = some (Tr.ev l k).who)))))) := by
        have hd := dela g5 w.heap.size g3 wr.heap.size bb L (lkL L) (fun x => !decide (Tr.hdC (l.take k) x = some (Tr.ev l k).who)) W5 HN.out (by rw [lkL_len]; exact hL6) (i64_in hL6 (lkL_mem L)) (fun x W hx hW => by
          have hWg : X2.grownBy W (some bm) := ⟨hW.os.trans HG5.out.os, hW.tape.trans HG5.out.tape, hW.output.trans HG5.out.output, Nat.le_trans HG5.out.size hW.size, fun k' hk' hn' => by
            rw [hW.block k' (Nat.lt_of_lt_of_le hk' HG5.out.size) (fun e => by injection e with e; have h1 := HN.out.le; have h2 := HG.out.size; omega)]
            exact HG5.out.block k' hk' hn'⟩
          obtain ⟨n3, n1, n2, hE, hB⟩ := HKp.out W hWg
          exact pclA s pa pc ra rc (some ⟨b, off, none⟩) lc l rn g5 w.heap.size g3 k bm (l.take k) x W n3 n1 n2 hE (HM5.out.keep (hW.block _ HM5.out.lt (fun e => by injection e with e; have h1 := HN.out.le; have h2 := HM.out.lt; omega))) HI.out hx)
        rw [lkL_len] at hd
        exact hd
      clear hN hb y0 y1 y2 y3 y4 y5 y6 HLk HM HM5
      go_wp2_with fail
      refine HD.out.mono ?_
      rintro e6 W6 ⟨rfl, hN6, hg6⟩
      have hfe : (lkL L).filter (fun x => !(!decide (Tr.hdC (l.take k) x = some (Tr.ev l k).who))) = hoL L (l.take k) (Tr.ev l k).who := by
        unfold hoL
        congr 1
        funext x
        rw [Bool.not_not]
      rw [hfe] at hN6 ⊢
      have HR : Hid (POST (.returned (.slice (some ⟨bb, 0, none⟩) (hoL L (l.take k) (Tr.ev l k).who).length L)) W6) := by
        show POST _ _
        rw [HP.out]
        exact ⟨bb, rfl, own_base hN6 HBw.out.size, (HKp.out W5 HG5.out).2.2.2.2.grown hg6 (Nat.le_trans HBw.out.size (Nat.le_trans (Nat.le_of_lt (Nat.lt_of_le_of_lt HN.out.le HN.out.lt)) (Nat.le_refl _))) (fun k' hk' => by injection hk' with hk'; have := HN.out.le; have := HBw.out.size; omega)⟩
      clear hN6 hg6 HD HN HG5 HBw hfe
      go_wp2
      first | exact HR.out | exact ⟨rfl, HR.out⟩
end LW
end Go.Proofs.Ytlnlkhbegdifkaa
