/-
  The law on Held and Guards.
-/
import Derived.Test.YtlnlkhbegdifkaaTkL
namespace Go.Proofs.Ytlnlkhbegdifkaa
open Go.RowKit
set_option linter.unusedVariables false
set_option linter.unusedSimpArgs false
namespace LW
open Mc
theorem hdA_len (s : Syst) (l : List Ev) (i : Int) : (hdA s l i).length ≤ 9223372036854775807 ∨ ¬ Ok s := by
  by_cases ho : Ok s
  · left
    unfold hdA
    split
    · unfold hoL
      have := filt_len (fun x => decide (Tr.hdC (l.take i.toNat) x = some (Tr.ev l i.toNat).who)) s.locks.toNat
      have := ho.l1
      omega
    · simp
  · exact .inr ho
theorem hdA_le (s : Syst) (l : List Ev) (i : Int) : (hdA s l i).length ≤ 9223372036854775807 := by
  rcases hdA_len s l i with h | h
  · exact h
  · unfold hdA
    have h1 : hdE s l i ≠ 0 := by
      unfold hdE
      rw [Tr.vR_sys h]
      simp
    rw [if_neg h1]
    simp
theorem gdA_le (s : Syst) (l : List Ev) (i : Int) : (gdA s l i).length ≤ 9223372036854775807 := by
  by_cases ho : Ok s
  · unfold gdA
    split
    · split
      · have := guL_len s.locks.toNat l i l.length
        have := ho.l1
        omega
      · simp
    · simp
  · unfold gdA
    have h1 : gdE s l i ≠ 0 := by
      unfold gdE
      rw [Tr.vR_sys ho]
      simp
    rw [if_neg h1]
    simp
set_option maxRecDepth 100000 in
set_option maxHeartbeats 4000000 in
theorem locksW (s : Syst) (pa : Option Addr) (pc : Nat) (ra : Option Addr) (rc : Nat) (la : Option Addr) (lc : Nat) (l : List Ev) (ai aj ak : Int) (w : World) (hs : SyI w s pa ra) (hl : EvI w la lc l) (hz : l.length ≤ 3518437208780) (hi : i64 ai) (hj : i64 aj) (hk : i64 ak) :
    Calls Try.prog 4 #[.agg (syC s pa pc ra rc), .slice la l.length lc, .agg #[.int .i64 ai, .int .i64 aj, .int .i64 ak]] w fun e w' => e = .returned (.bool true) ∧ Below w.heap.size w w' := by
  unfold syC
  have HCo : Hid (∀ W, Below w.heap.size w W → Calls Try.prog 5 #[.slice la l.length lc] W fun e w' => ∃ a c, e = .returned (.slice a l.length c) ∧ EvI w' a c l ∧ Below W.heap.size W w') := fun W hW => lcopied la lc l W (hl.below hW) hz
  have HH1 : Hid (∀ a c W, Below w.heap.size w W → EvI W a c l → Calls Try.prog 10 #[.agg #[.slice pa s.progs.length pc, .slice ra s.rooms.length rc, .int .i64 s.groups, .int .i64 s.locks, .int .i64 s.cells], .slice a l.length c, .int .i64 ai] W fun e w' => ∃ ra rc, e = .returned (.tuple #[.slice ra (hdA s l ai).length rc, .int .i64 (hdE s l ai)]) ∧ NR w' ra (hdA s l ai) ∧ Below W.heap.size W w') := fun a c W hW he => ptheld s pa pc ra rc a c l ai W (hs.below hW) he
  have HH2 : Hid (∀ W, Below w.heap.size w W → Calls Try.prog 11 #[.agg #[.slice pa s.progs.length pc, .slice ra s.rooms.length rc, .int .i64 s.groups, .int .i64 s.locks, .int .i64 s.cells], .slice la l.length lc, .int .i64 ai] W fun e w' => ∃ ra rc, e = .returned (.tuple #[.slice ra (hdA s l ai).length rc, .int .i64 (hdE s l ai)]) ∧ NR w' ra (hdA s l ai) ∧ Below W.heap.size W w') := fun W hW => rtheld s pa pc ra rc la lc l ai W (hs.below hW) (hl.below hW)
  have HG1 : Hid (∀ a c W, Below w.heap.size w W → EvI W a c l → Calls Try.prog 13 #[.agg #[.slice pa s.progs.length pc, .slice ra s.rooms.length rc, .int .i64 s.groups, .int .i64 s.locks, .int .i64 s.cells], .slice a l.length c, .int .i64 ak] W fun e w' => ∃ ra rc, e = .returned (.tuple #[.slice ra (gdA s l ak).length rc, .int .i64 (gdE s l ak)]) ∧ NR w' ra (gdA s l ak) ∧ Below W.heap.size W w') := fun a c W hW he => ptguards s pa pc ra rc a c l ak W (hs.below hW) he
  have HG2 : Hid (∀ W, Below w.heap.size w W → Calls Try.prog 14 #[.agg #[.slice pa s.progs.length pc, .slice ra s.rooms.length rc, .int .i64 s.groups, .int .i64 s.locks, .int .i64 s.cells], .slice la l.length lc, .int .i64 ak] W fun e w' => ∃ ra rc, e = .returned (.tuple #[.slice ra (gdA s l ak).length rc, .int .i64 (gdE s l ak)]) ∧ NR w' ra (gdA s l ak) ∧ Below W.heap.size W w') := fun W hW => rtguards s pa pc ra rc la lc l ak W (hs.below hW) (hl.below hW)
  have HA1 : Hid (∀ a b ac bc W, NR W a (hdA s l ai) → NR W b (hdA s l ai) → Calls Try.prog 12 #[.slice a (hdA s l ai).length ac, .slice b (hdA s l ai).length bc] W fun e w' => e = .returned (.bool true) ∧ Below W.heap.size W w') := fun a b ac bc W h1 h2 => lalikes a b ac bc _ W h1 h2 (hdA_le s l ai)
  have HA2 : Hid (∀ a b ac bc W, NR W a (gdA s l ak) → NR W b (gdA s l ak) → Calls Try.prog 12 #[.slice a (gdA s l ak).length ac, .slice b (gdA s l ak).length bc] W fun e w' => e = .returned (.bool true) ∧ Below W.heap.size W w') := fun a b ac bc W h1 h2 => lalikes a b ac bc _ W h1 h2 (gdA_le s l ak)
  generalize hdA s l ai = HL at *
  generalize hdE s l ai = hE at *
  generalize gdA s l ak = GL at *
  generalize gdE s l ak = gE at *
  clear hs hl hz hi hj hk
  have NS0 : Hid (((w.alloc (.cells #[.slice pa s.progs.length pc, .slice ra s.rooms.length rc, .int .i64 s.groups, .int .i64 s.locks, .int .i64 s.cells] 25)).alloc (.cells #[.int .i64 ai, .int .i64 aj, .int .i64 ak] 36)).heap[w.heap.size]? = some (.cells #[.slice pa s.progs.length pc, .slice ra s.rooms.length rc, .int .i64 s.groups, .int .i64 s.locks, .int .i64 s.cells] 25 (0, 0))) := blk_alloc (heap_alloc_new w _)
  have NA0 : Hid (((w.alloc (.cells #[.slice pa s.progs.length pc, .slice ra s.rooms.length rc, .int .i64 s.groups, .int .i64 s.locks, .int .i64 s.cells] 25)).alloc (.cells #[.int .i64 ai, .int .i64 aj, .int .i64 ak] 36)).heap[w.heap.size + 1]? = some (.cells #[.int .i64 ai, .int .i64 aj, .int .i64 ak] 36 (0, 0))) := by
    have h1 := heap_alloc_new (w.alloc (.cells #[.slice pa s.progs.length pc, .slice ra s.rooms.length rc, .int .i64 s.groups, .int .i64 s.locks, .int .i64 s.cells] 25)) (.cells #[.int .i64 ai, .int .i64 aj, .int .i64 ak] 36)
    have h2 : (w.alloc (.cells #[.slice pa s.progs.length pc, .slice ra s.rooms.length rc, .int .i64 s.groups, .int .i64 s.locks, .int .i64 s.cells] 25)).heap.size = w.heap.size + 1 := by simp
    rw [h2] at h1
    exact h1
  have NB0 : Hid (Below w.heap.size w ((w.alloc (.cells #[.slice pa s.progs.length pc, .slice ra s.rooms.length rc, .int .i64 s.groups, .int .i64 s.locks, .int .i64 s.cells] 25)).alloc (.cells #[.int .i64 ai, .int .i64 aj, .int .i64 ak] 36))) := ((Below.refl _ _).alloc (Nat.le_refl _) _).alloc (by simp) _
  have kx : ∀ x : Int, (x != x) = false := fun x => by simp
  have ky : ∀ x : Int, (x == x) = true := fun x => by simp
  go_enter Try.func4, Try.ntmps4
  refine wp_seq_k fun K hK => ?_
  have HK := TW.hide hK
  clear hK
  go_wp2
  refine HK.out _ _ ?_
  clear HK K
  generalize World.alloc _ _ = X at *
  generalize w.heap.size + 1 = ga at *
  have z0 : X.cell? ⟨ga, 0, none⟩ = some (.int .i64 ai) := blk_cell NA0.out rfl
  have z2 : X.cell? ⟨ga, 2, none⟩ = some (.int .i64 ak) := blk_cell NA0.out rfl
  refine wp_seq_k fun K hK => ?_
  have HK := TW.hide hK
  clear hK
  go_wp2
  go_quiet (fail)
  go_wp2
  refine HK.out _ _ ?_
  clear HK K
  have hq : Below X.heap.size X (X.drewN nq) := below_drewN (Below.refl _ _) _
  have NS := TW.hide (blk_keep NS0.out hq)
  have NBx : Hid (Below w.heap.size w (X.drewN nq)) := NB0.out.trans (hq.mono NB0.out.size)
  clear hq z0 z2 NS0 NA0 NB0
  generalize X.drewN nq = X1 at *
  have HX : Hid (Below X1.heap.size X1 X1) := Below.refl _ _
  refine wp_seq_k fun K hK => ?_
  have HK := TW.hide hK
  clear hK
  refine wp_region_noPanic ?_
  refine RG.wp_region_L (fun Z => True) (fun Z => Below X1.heap.size X1 Z) [] (by kernel_rfl) ?_
  refine RG.wpL_any fun Ya hY => ?_
  have HTa : Hid (Below X1.heap.size X1 Ya) := by rw [hY]; exact below_drewN HX.out 1
  clear hY
  refine RG.wpL_take (fuel := 7) (a' := ?Aa) [0, 1, 3] (by kernel_rfl) (by kernel_rfl) (fun _ _ _ _ _ h => h) HTa.out (fun _ => trivial) ?ra ?_
  case ra =>
    refine RG.RunsIf.weak (v := .agg #[.slice pa s.progs.length pc, .slice ra s.rooms.length rc, .int .i64 s.groups, .int .i64 s.locks, .int .i64 s.cells]) (by rfl) (by rfl) (fun Z hT => ?_) ?_
    · obtain ⟨y0, y1, y2, y3, y4⟩ := cellsY5 (blk_keep NS.out hT)
      go_simp
    simp only [Act.put, List.setIfInBounds_toArray, List.set_cons_zero, List.set_cons_succ, List.getElem_toArray, List.getElem_cons_zero, List.getElem_cons_succ]
    refine RG.RunsIf.weak (v := ?_) (by rfl) (by rfl) (fun Z hT => ?_) ?_
    rotate_left
    · go_simp
      rfl
    simp only [Act.put, List.setIfInBounds_toArray, List.set_cons_zero, List.set_cons_succ, List.getElem_toArray, List.getElem_cons_zero, List.getElem_cons_succ]
    refine RG.RunsIf.weak (v := ?_) (by rfl) (by rfl) (fun Z hT => ?_) ?_
    rotate_left
    · go_simp
      rfl
    simp only [Act.put, List.setIfInBounds_toArray, List.set_cons_zero, List.set_cons_succ, List.getElem_toArray, List.getElem_cons_zero, List.getElem_cons_succ]
    exact RG.RunsIf.nil
  refine RG.wpL_step (i := 2) (by kernel_rfl) (by rfl) (by rfl) (fun KX hK => ?_)
  have HK := TW.hide hK
  clear hK
  go_simp
  refine (HCo.out Ya (NBx.out.trans (HTa.out.mono NBx.out.size))).mono ?_
  rintro e_Wc Wc ⟨ca, cc, rfl, hce, hb⟩
  have HTc : Hid (Below X1.heap.size X1 Wc) := HTa.out.trans (hb.mono HTa.out.size)
  refine HK.out _ _ HTc.out (fun _ => trivial) ?_
  clear HK KX hb
  try simp only [Act.put, List.setIfInBounds_toArray, List.set_cons_zero, List.set_cons_succ, List.getElem_toArray, List.getElem_cons_zero, List.getElem_cons_succ]
  refine RG.wpL_step (i := 4) (by kernel_rfl) (by rfl) (by rfl) (fun KX hK => ?_)
  have HK := TW.hide hK
  clear hK
  go_simp
  refine (HH1.out ca cc Wc (NBx.out.trans (HTc.out.mono NBx.out.size)) hce).mono ?_
  rintro e_Wd Wd ⟨p1, p2, rfl, hn1, hb⟩
  have HTd : Hid (Below X1.heap.size X1 Wd) := HTc.out.trans (hb.mono HTc.out.size)
  refine HK.out _ _ HTd.out (fun _ => trivial) ?_
  clear HK KX hb
  try simp only [Act.put, List.setIfInBounds_toArray, List.set_cons_zero, List.set_cons_succ, List.getElem_toArray, List.getElem_cons_zero, List.getElem_cons_succ]
  refine RG.wpL_take (fuel := 0) (a' := ?Aax) [5, 6, 7, 8, 9] (by kernel_rfl) (by kernel_rfl) (fun _ _ _ _ _ h => h) HTd.out (fun _ => trivial) ?rax ?_
  case rax =>
    refine RG.RunsIf.weak (v := ?_) (by rfl) (by rfl) (fun Z hT => ?_) ?_
    rotate_left
    · go_simp
      rfl
    simp only [Act.put, List.setIfInBounds_toArray, List.set_cons_zero, List.set_cons_succ, List.getElem_toArray, List.getElem_cons_zero, List.getElem_cons_succ]
    refine RG.RunsIf.weak (v := ?_) (by rfl) (by rfl) (fun Z hT => ?_) ?_
    rotate_left
    · go_simp
      rfl
    simp only [Act.put, List.setIfInBounds_toArray, List.set_cons_zero, List.set_cons_succ, List.getElem_toArray, List.getElem_cons_zero, List.getElem_cons_succ]
    refine RG.RunsIf.weak (v := ?_) (by rfl) (by rfl) (fun Z hT => ?_) ?_
    rotate_left
    · go_simp
      rfl
    simp only [Act.put, List.setIfInBounds_toArray, List.set_cons_zero, List.set_cons_succ, List.getElem_toArray, List.getElem_cons_zero, List.getElem_cons_succ]
    refine RG.RunsIf.weak (v := ?_) (by rfl) (by rfl) (fun Z hT => ?_) ?_
    rotate_left
    · go_simp
      rfl
    simp only [Act.put, List.setIfInBounds_toArray, List.set_cons_zero, List.set_cons_succ, List.getElem_toArray, List.getElem_cons_zero, List.getElem_cons_succ]
    refine RG.RunsIf.weak (v := ?_) (by rfl) (by rfl) (fun Z hT => ?_) ?_
    rotate_left
    · go_simp
      rfl
    simp only [Act.put, List.setIfInBounds_toArray, List.set_cons_zero, List.set_cons_succ, List.getElem_toArray, List.getElem_cons_zero, List.getElem_cons_succ]
    exact RG.RunsIf.nil
  refine RG.wpL_done (by kernel_rfl) ?_ _
  refine NoPanic.normal ?_
  refine HK.out _ _ ?_
  clear HK K
  have NB1 : Hid (Below w.heap.size w Wd) := NBx.out.trans (HTd.out.mono NBx.out.size)
  have NS1 := TW.hide (blk_keep NS.out HTd.out)
  have HN1 := TW.hide hn1
  clear HTa HTc HTd HX NS NBx hce hn1
  obtain ⟨y0, y1, y2, y3, y4⟩ := cellsY5 NS1.out
  go_wp2_with fail
  refine (HH2.out Wd NB1.out).mono ?_
  rintro e3 W3 ⟨p3, p4, rfl, hn2, hb⟩
  have NB3 : Hid (Below w.heap.size w W3) := NB1.out.trans (hb.mono NB1.out.size)
  have NS3 := TW.hide (blk_keep NS1.out hb)
  have HN13 := TW.hide (HN1.out.below hb)
  have HN2 := TW.hide hn2
  clear hb NB1 NS1 HN1 hn2 y0 y1 y2 y3 y4
  go_wp2_with fail
  refine (HA1.out p1 p3 p2 p4 W3 HN13.out HN2.out).mono ?_
  rintro e4 W4 ⟨rfl, hb⟩
  have NBx : Hid (Below w.heap.size w W4) := NB3.out.trans (hb.mono NB3.out.size)
  have NS := TW.hide (blk_keep NS3.out hb)
  clear hb NB3 NS3 HN13 HN2 HA1 HH1 HH2
  have HX : Hid (Below W4.heap.size W4 W4) := Below.refl _ _
  go_wp2
  refine wp_region_noPanic ?_
  refine RG.wp_region_L (fun Z => True) (fun Z => Below W4.heap.size W4 Z) [] (by kernel_rfl) ?_
  refine RG.wpL_any fun Yb hY => ?_
  have HTb : Hid (Below W4.heap.size W4 Yb) := by rw [hY]; exact below_drewN HX.out 1
  clear hY
  refine RG.wpL_take (fuel := 7) (a' := ?Ab) [0, 1, 3] (by kernel_rfl) (by kernel_rfl) (fun _ _ _ _ _ h => h) HTb.out (fun _ => trivial) ?rb ?_
  case rb =>
    refine RG.RunsIf.weak (v := .agg #[.slice pa s.progs.length pc, .slice ra s.rooms.length rc, .int .i64 s.groups, .int .i64 s.locks, .int .i64 s.cells]) (by rfl) (by rfl) (fun Z hT => ?_) ?_
    · obtain ⟨y0, y1, y2, y3, y4⟩ := cellsY5 (blk_keep NS.out hT)
      go_simp
    simp only [Act.put, List.setIfInBounds_toArray, List.set_cons_zero, List.set_cons_succ, List.getElem_toArray, List.getElem_cons_zero, List.getElem_cons_succ]
    refine RG.RunsIf.weak (v := ?_) (by rfl) (by rfl) (fun Z hT => ?_) ?_
    rotate_left
    · go_simp
      rfl
    simp only [Act.put, List.setIfInBounds_toArray, List.set_cons_zero, List.set_cons_succ, List.getElem_toArray, List.getElem_cons_zero, List.getElem_cons_succ]
    refine RG.RunsIf.weak (v := ?_) (by rfl) (by rfl) (fun Z hT => ?_) ?_
    rotate_left
    · go_simp
      rfl
    simp only [Act.put, List.setIfInBounds_toArray, List.set_cons_zero, List.set_cons_succ, List.getElem_toArray, List.getElem_cons_zero, List.getElem_cons_succ]
    exact RG.RunsIf.nil
  refine RG.wpL_step (i := 2) (by kernel_rfl) (by rfl) (by rfl) (fun KX hK => ?_)
  have HK := TW.hide hK
  clear hK
  go_simp
  refine (HCo.out Yb (NBx.out.trans (HTb.out.mono NBx.out.size))).mono ?_
  rintro e_Wc Wc ⟨ca, cc, rfl, hce, hb⟩
  have HTc : Hid (Below W4.heap.size W4 Wc) := HTb.out.trans (hb.mono HTb.out.size)
  refine HK.out _ _ HTc.out (fun _ => trivial) ?_
  clear HK KX hb
  try simp only [Act.put, List.setIfInBounds_toArray, List.set_cons_zero, List.set_cons_succ, List.getElem_toArray, List.getElem_cons_zero, List.getElem_cons_succ]
  refine RG.wpL_step (i := 4) (by kernel_rfl) (by rfl) (by rfl) (fun KX hK => ?_)
  have HK := TW.hide hK
  clear hK
  go_simp
  refine (HG1.out ca cc Wc (NBx.out.trans (HTc.out.mono NBx.out.size)) hce).mono ?_
  rintro e_Wd Wd ⟨p5, p6, rfl, hn1, hb⟩
  have HTd : Hid (Below W4.heap.size W4 Wd) := HTc.out.trans (hb.mono HTc.out.size)
  refine HK.out _ _ HTd.out (fun _ => trivial) ?_
  clear HK KX hb
  try simp only [Act.put, List.setIfInBounds_toArray, List.set_cons_zero, List.set_cons_succ, List.getElem_toArray, List.getElem_cons_zero, List.getElem_cons_succ]
  refine RG.wpL_take (fuel := 0) (a' := ?Abx) [5, 6, 7, 8, 9] (by kernel_rfl) (by kernel_rfl) (fun _ _ _ _ _ h => h) HTd.out (fun _ => trivial) ?rbx ?_
  case rbx =>
    refine RG.RunsIf.weak (v := ?_) (by rfl) (by rfl) (fun Z hT => ?_) ?_
    rotate_left
    · go_simp
      rfl
    simp only [Act.put, List.setIfInBounds_toArray, List.set_cons_zero, List.set_cons_succ, List.getElem_toArray, List.getElem_cons_zero, List.getElem_cons_succ]
    refine RG.RunsIf.weak (v := ?_) (by rfl) (by rfl) (fun Z hT => ?_) ?_
    rotate_left
    · go_simp
      rfl
    simp only [Act.put, List.setIfInBounds_toArray, List.set_cons_zero, List.set_cons_succ, List.getElem_toArray, List.getElem_cons_zero, List.getElem_cons_succ]
    refine RG.RunsIf.weak (v := ?_) (by rfl) (by rfl) (fun Z hT => ?_) ?_
    rotate_left
    · go_simp
      rfl
    simp only [Act.put, List.setIfInBounds_toArray, List.set_cons_zero, List.set_cons_succ, List.getElem_toArray, List.getElem_cons_zero, List.getElem_cons_succ]
    refine RG.RunsIf.weak (v := ?_) (by rfl) (by rfl) (fun Z hT => ?_) ?_
    rotate_left
    · go_simp
      rfl
    simp only [Act.put, List.setIfInBounds_toArray, List.set_cons_zero, List.set_cons_succ, List.getElem_toArray, List.getElem_cons_zero, List.getElem_cons_succ]
    refine RG.RunsIf.weak (v := ?_) (by rfl) (by rfl) (fun Z hT => ?_) ?_
    rotate_left
    · go_simp
      rfl
    simp only [Act.put, List.setIfInBounds_toArray, List.set_cons_zero, List.set_cons_succ, List.getElem_toArray, List.getElem_cons_zero, List.getElem_cons_succ]
    exact RG.RunsIf.nil
  refine RG.wpL_done (by kernel_rfl) ?_ _
  refine NoPanic.normal ?_
  have NB1 : Hid (Below w.heap.size w Wd) := NBx.out.trans (HTd.out.mono NBx.out.size)
  have NS1 := TW.hide (blk_keep NS.out HTd.out)
  have HN1 := TW.hide hn1
  clear HTb HTc HTd HX NS NBx hce hn1
  obtain ⟨y0, y1, y2, y3, y4⟩ := cellsY5 NS1.out
  go_wp2_with fail
  refine (HG2.out Wd NB1.out).mono ?_
  rintro e5 W5 ⟨p7, p8, rfl, hn2, hb⟩
  have NB5 : Hid (Below w.heap.size w W5) := NB1.out.trans (hb.mono NB1.out.size)
  have HN15 := TW.hide (HN1.out.below hb)
  have HN2 := TW.hide hn2
  clear hb NB1 NS1 HN1 hn2 y0 y1 y2 y3 y4
  go_wp2_with fail
  refine (HA2.out p5 p7 p6 p8 W5 HN15.out HN2.out).mono ?_
  rintro e6 W6 ⟨rfl, hb⟩
  have NB6 : Hid (Below w.heap.size w W6) := NB5.out.trans (hb.mono NB5.out.size)
  clear hb NB5
  go_wp2
  go_ret
  exact ⟨rfl, NB6.out⟩
end LW
end Go.Proofs.Ytlnlkhbegdifkaa
