/-
  What the law ParamMemory does: what is handed in stays, and what is handed out is nobody else's.
-/
import Derived.Test.YtomdplcmbcjkfaaMemL
import Derived.Test.YtomdplcmbcjkfaaAlike
import Derived.Test.YtomdplcmbcjkfaaAliveP
import Derived.Test.YtomdplcmbcjkfaaOrder
import Derived.Deep.MidRow
namespace Go.Proofs.Ytomdplcmbcjkfaa
open Go.RowKit Go.ChangeShapes
set_option linter.unusedVariables false
set_option linter.unusedSimpArgs false
namespace LW
open Words
attribute [local go_sem ↓] Go.wp_at_zero Go.wp_at_succ
theorem blk_keepM {w w' : World} {b : Nat} {o : Obj} (h : w.heap[b]? = some o) (hb : Below w.heap.size w w') : w'.heap[b]? = some o := by
  rw [hb.block b (Array.getElem?_eq_some_iff.1 h).1]; exact h
theorem blk_ltM {w : World} {b : Nat} {o : Obj} (h : w.heap[b]? = some o) : b < w.heap.size := (Array.getElem?_eq_some_iff.1 h).1
theorem blk_frozen {w : World} {b i : Nat} {cs : Array Value} {t : TypeId} (h : w.heap[b]? = some (.cells cs t (0, 0))) : w.frozen? ⟨b, i, none⟩ = false := by simp [World.frozen?, h]
set_option maxRecDepth 100000 in
set_option maxHeartbeats 4000000 in
theorem memory (p : Pm) (sa ta : Option Addr) (sc tc : Nat) (s t : List Int) (kd fld oth v : Int) (a : Option Addr) (cap : Nat) (zs : List Int) (w : World) (hp : p.Ok) (h1 : Pb w sa sc s) (h2 : Pb w ta tc t) (h3 : Pb w a cap zs) (v0 : 0 ≤ v) (v1 : v < 18446744073709551616) :
    Calls Try.prog 3 #[.agg (pcP p (.slice sa s.length sc) (.slice ta t.length tc)), .agg #[.int .i64 kd, .slice a zs.length cap, .int .i64 fld, .int .i64 oth, .int .u64 v]] w fun e w' => e = .returned (.bool true) ∧ Below w.heap.size w w' := by
  have al := fun Y => alive Y
  have ws := fun Y (hb : Below w.heap.size w Y) => wideW sa sc s Y (h1.below hb)
  have wt := fun Y (hb : Below w.heap.size w Y) => wideW ta tc t Y (h2.below hb)
  have wf := fun Y (hb : Below w.heap.size w Y) => wideW a cap zs Y (h3.below hb)
  have ks := fun Y (hb : Below w.heap.size w Y) g c (hw : Wd Y g c s) => keptW sa sc s g c Y (h1.below hb) hw
  have kt := fun Y (hb : Below w.heap.size w Y) g c (hw : Wd Y g c t) => keptW ta tc t g c Y (h2.below hb) hw
  have kf := fun Y (hb : Below w.heap.size w Y) g c (hw : Wd Y g c zs) => keptW a cap zs g c Y (h3.below hb) hw
  have no := fun Y g c g' c' (x1 : Wd Y g c s) (x2 : Wd Y g' c' t) => normalW kd p hp _ _ c c' s t Y (x1.pb h1.len h1.byt) (x2.pb h2.len h2.byt)
  have en := fun Y g c g' c' (x1 : Wd Y g c s) (x2 : Wd Y g' c' t) => encW kd p hp _ _ c c' s t Y (x1.pb h1.len h1.byt) (x2.pb h2.len h2.byt)
  have en2 := fun Y g c g' c' (x1 : Wd Y g c s) (x2 : Wd Y g' c' t) => encP kd p hp _ _ c c' s t Y (x1.pb h1.len h1.byt) (x2.pb h2.len h2.byt)
  have ren := fun Y (hb : Below w.heap.size w Y) => rencP kd p hp sa ta sc tc s t Y (h1.below hb) (h2.below hb)
  have de := fun x Y g c (x1 : Wd Y g c zs) => decW kd x _ c zs Y (x1.pb h3.len h3.byt) x1.max
  have de2 := fun x Y g c (x1 : Wd Y g c zs) => (decP kd x _ c zs Y (x1.pb h3.len h3.byt) x1.max).mono fun e w' h' => says_open h3.byt h3.len h'
  have rde := fun x Y (hb : Below w.heap.size w Y) => (rdecP kd x a cap zs Y (h3.below hb)).mono fun e w' h' => says_open h3.byt h3.len h'
  have pu := fun Y g c (x1 : Wd Y g c zs) => putW kd fld _ c zs v Y (x1.pb h3.len h3.byt) v0 v1
  have pu2 := fun Y g c (x1 : Wd Y g c zs) => put kd fld _ c zs v Y (x1.pb h3.len h3.byt).row (x1.pb h3.len h3.byt).nil v0 v1
  have rpu := fun Y (hb : Below w.heap.size w Y) => rput kd fld a cap zs v Y h3.byt (h3.below hb).row h3.nil v0 v1
  have c1 := fun Y g c (x : Wd Y g c s) => (show s.length ≤ c by have := x.cap; omega)
  have c2 := fun Y g c (x : Wd Y g c t) => (show t.length ≤ c by have := x.cap; omega)
  have c3 := fun Y g c (x : Wd Y g c zs) => (show zs.length ≤ c by have := x.cap; omega)
  have sm := fun (L : List Int) (hL : L.length ≤ maxLen) a a' c c' Y (r1 : Row Y a L) (r2 : Row Y a' L) => same a a' c c' L L Y r1 r2 hL hL
  simp only [decide_true] at sm
  have ak := fun (P : Pm) (S T : List Int) a c b d a' c' b' d' W (g1 : Pa W a c S) (g2 : Pa W b d T) (g3 : Pa W a' c' S) (g4 : Pa W b' d' T) => (show Calls Try.prog 16 #[.agg (pcP P (.slice a S.length c) (.slice b T.length d)), .agg (pcP P (.slice a' S.length c') (.slice b' T.length d'))] W fun e w' => e = .returned (.bool true) ∧ Below W.heap.size W w' from
    alikeE _ _ _ _ _ _ _ _ _ a b a' b' c d c' d' _ _ W g1.row g2.row g3.row g4.row (by have := g1.len; unfold maxLen; omega) (by have := g2.len; unfold maxLen; omega))
  have hel := eS_le kd p s t
  have hpl := pL_len kd fld zs v
  have hzl := h3.len
  unfold EncSays at en2 ren
  generalize eS (p.ck kd s.length t.length) (enL kd p s t) = L1 at *
  generalize p.ck kd s.length t.length = E1 at *
  generalize pL kd fld zs v = L3 at *
  generalize pE kd fld zs.length v = E3 at *
  have hm1 : L1.length ≤ maxLen := by unfold maxLen; omega
  have hm3 : L3.length ≤ maxLen := by unfold maxLen; rcases hpl with h | h <;> omega
  have sm1 := sm L1 hm1
  have sm3 := sm L3 hm3
  have ro3 := fun (W : World) (B : Nat) (x : Value) (h : W.ownsRow B 5 1 x L3.length (vs L3)) => row_of_own h
  have qe1 : (E1 == E1) = true := by simp
  have qe3 : (E3 == E3) = true := by simp
  obtain ⟨xx, hxx⟩ : ∃ xx, (p.xof != 0) = xx := ⟨_, rfl⟩
  have de' := de xx
  have de2' := de2 xx
  have rde' := rde xx
  have ak' := ak (nP (dE kd xx zs) (dP kd xx zs)) (nS (dE kd xx zs) (saL kd zs)) (nS (dE kd xx zs) (peL kd zs))
  generalize nP (dE kd xx zs) (dP kd xx zs) = P2 at *
  generalize nS (dE kd xx zs) (saL kd zs) = S2 at *
  generalize nS (dE kd xx zs) (peL kd zs) = T2 at *
  generalize dE kd xx zs = E2 at *
  have qe2 : (E2 == E2) = true := by simp
  clear de de2 rde ak sm hel hpl hm1 hm3
  generalize L1.length = n1 at *
  generalize L3.length = n3 at *
  generalize S2.length = n2 at *
  generalize T2.length = m2 at *
  have hsl0 : s.length ≤ 140737488351232 := h1.len
  have htl0 : t.length ≤ 140737488351232 := h2.len
  generalize hsl : s.length = sl at *
  generalize htl : t.length = tl at *
  generalize hzl' : zs.length = len at *
  have hb := ((Below.refl w.heap.size w).alloc (Nat.le_refl _) (.cells (pcP p (.slice sa sl sc) (.slice ta tl tc)) 26)).alloc (by simp) (.cells #[.int .i64 kd, .slice a len cap, .int .i64 fld, .int .i64 oth, .int .u64 v] 28)
  have n0 : ((w.alloc (.cells (pcP p (.slice sa sl sc) (.slice ta tl tc)) 26)).alloc (.cells #[.int .i64 kd, .slice a len cap, .int .i64 fld, .int .i64 oth, .int .u64 v] 28)).heap[w.heap.size]? = some (.cells (pcP p (.slice sa sl sc) (.slice ta tl tc)) 26 (0, 0)) := by
    rw [Below.heap_alloc _ _ _ (by simp)]; exact heap_new w _
  have n1' : ((w.alloc (.cells (pcP p (.slice sa sl sc) (.slice ta tl tc)) 26)).alloc (.cells #[.int .i64 kd, .slice a len cap, .int .i64 fld, .int .i64 oth, .int .u64 v] 28)).heap[w.heap.size + 1]? = some (.cells #[.int .i64 kd, .slice a len cap, .int .i64 fld, .int .i64 oth, .int .u64 v] 28 (0, 0)) := by
    have := heap_new (w.alloc (.cells (pcP p (.slice sa sl sc) (.slice ta tl tc)) 26)) (.cells #[.int .i64 kd, .slice a len cap, .int .i64 fld, .int .i64 oth, .int .u64 v] 28)
    rw [show (w.alloc (.cells (pcP p (.slice sa sl sc) (.slice ta tl tc)) 26)).heap.size = w.heap.size + 1 by simp] at this
    exact this
  have AL := TW.hide al
  have WS := TW.hide ws
  have WT := TW.hide wt
  have WF := TW.hide wf
  have KS := TW.hide ks
  have KT := TW.hide kt
  have KF := TW.hide kf
  have NO := TW.hide no
  have EN := TW.hide en
  have EN2 := TW.hide en2
  have REN := TW.hide ren
  have PU := TW.hide pu
  have PU2 := TW.hide pu2
  have RPU := TW.hide rpu
  have C1 := TW.hide c1
  have C2 := TW.hide c2
  have C3 := TW.hide c3
  have SM1 := TW.hide sm1
  have SM3 := TW.hide sm3
  have RO3 := TW.hide ro3
  have DE := TW.hide de'
  have DE2 := TW.hide de2'
  have RDE := TW.hide rde'
  have AK := TW.hide ak'
  clear al ws wt wf ks kt kf no en en2 ren pu pu2 rpu c1 c2 c3 sm1 sm3 ro3 de' de2' rde' ak' h1 h2 h3 hp hsl htl hzl'
  go_enter Try.func3, Try.ntmps3
  refine wp_seq_k fun KK hK => ?_
  have HK := TW.hide hK
  clear hK
  go_wp2
  refine HK.out _ _ ?_
  clear HK KK
  change Code.wp _ _ _ _ ((w.alloc (.cells (pcP p (.slice sa sl sc) (.slice ta tl tc)) 26)).alloc (.cells #[.int .i64 kd, .slice a len cap, .int .i64 fld, .int .i64 oth, .int .u64 v] 28))
  generalize (w.alloc (.cells (pcP p (.slice sa sl sc) (.slice ta tl tc)) 26)).alloc (.cells #[.int .i64 kd, .slice a len cap, .int .i64 fld, .int .i64 oth, .int .u64 v] 28) = W at hb n0 n1' ⊢
  generalize hB : w.heap.size = B at *
  have M0 := TW.hide n0
  have M1 := TW.hide n1'
  have MB := TW.hide hb
  clear n0 n1' hb
  refine wp_seq_k fun KK hK => ?_
  have HK := TW.hide hK
  clear hK
  go_wp2_with fail
  refine (AL.out _).mono ?_
  rintro e w1 ⟨rfl, hb1⟩
  have N0 := TW.hide (blk_keepM M0.out hb1)
  have N1 := TW.hide (blk_keepM M1.out hb1)
  have hBW : B < W.heap.size := blk_ltM M0.out
  have NB : Hid (Below B w w1) := MB.out.trans (hb1.mono (by omega))
  have hB1 : B ≤ w1.heap.size := by have := hb1.size; omega
  have HT : Hid (Below w1.heap.size w1 w1) := Below.refl _ _
  clear hb1 M0 M1 MB AL hBW
  go_wp2
  refine HK.out _ _ ?_
  clear HK KK
  have HCE : Hid (∀ Z : World, Below w1.heap.size w1 Z → Z.cell? ⟨B + 1, 0, none⟩ = some (.int .i64 kd) ∧ Z.cell? ⟨B + 1, 1, none⟩ = some (.slice a len cap) ∧ Z.cell? ⟨B + 1, 2, none⟩ = some (.int .i64 fld) ∧ Z.cell? ⟨B + 1, 3, none⟩ = some (.int .i64 oth) ∧ Z.cell? ⟨B + 1, 4, none⟩ = some (.int .u64 v)) := fun Z hb => by
    have h := blk_keepM N1.out hb
    exact ⟨blk_cell h (i := 0) rfl, blk_cell h (i := 1) rfl, blk_cell h (i := 2) rfl, blk_cell h (i := 3) rfl, blk_cell h (i := 4) rfl⟩
  have HCP : Hid (∀ Z : World, Below w1.heap.size w1 Z → Z.cell? ⟨B, 6, none⟩ = some (.int .u32 p.xof) ∧ Z.cell? ⟨B, 9, none⟩ = some (.slice sa sl sc) ∧ Z.cell? ⟨B, 10, none⟩ = some (.slice ta tl tc)) := fun Z hb => by
    have h := blk_keepM N0.out hb
    exact ⟨blk_cell h (i := 6) rfl, blk_cell h (i := 9) rfl, blk_cell h (i := 10) rfl⟩
  refine wp_seq_k fun KK hK => ?_
  have HK0 := TW.hide hK
  clear hK
  refine wp_region_noPanic ?_
  refine RG.wp_region_L (fun Z => True) (fun Z => Below w1.heap.size w1 Z) [] (by kernel_rfl) ?_
  refine RG.wpL_any fun Y3 hY => ?_
  have H3 : Hid (Below w1.heap.size w1 Y3) := by rw [hY]; exact below_drewN HT.out 1
  clear hY HT
  refine RG.wpL_take (fuel := 4) (a' := ?A3) [0, 1, 2, 3, 4, 5, 6, 7] (by kernel_rfl) (by kernel_rfl) (fun _ _ _ _ _ h => h) H3.out (fun _ => trivial) ?r3 ?_
  case r3 =>
    refine RG.RunsIf.weak (v := ?_) (by rfl) (by rfl) (fun Z hT => ?_) ?_
    rotate_left
    · obtain ⟨c0, c1, c2, c3, c4⟩ := HCE.out Z hT
      go_simp
      rfl
    simp only [Act.put, List.setIfInBounds_toArray, List.set_cons_zero, List.set_cons_succ, List.getElem_toArray, List.getElem_cons_zero, List.getElem_cons_succ]
    refine RG.RunsIf.weak (v := ?_) (by rfl) (by rfl) (fun Z hT => ?_) ?_
    rotate_left
    · obtain ⟨c0, c1, c2, c3, c4⟩ := HCE.out Z hT
      go_simp
      rfl
    simp only [Act.put, List.setIfInBounds_toArray, List.set_cons_zero, List.set_cons_succ, List.getElem_toArray, List.getElem_cons_zero, List.getElem_cons_succ]
    refine RG.RunsIf.weak (v := ?_) (by rfl) (by rfl) (fun Z hT => ?_) ?_
    rotate_left
    · obtain ⟨c0, c1, c2, c3, c4⟩ := HCE.out Z hT
      go_simp
      rfl
    simp only [Act.put, List.setIfInBounds_toArray, List.set_cons_zero, List.set_cons_succ, List.getElem_toArray, List.getElem_cons_zero, List.getElem_cons_succ]
    refine RG.RunsIf.weak (v := ?_) (by rfl) (by rfl) (fun Z hT => ?_) ?_
    rotate_left
    · obtain ⟨c0, c1, c2, c3, c4⟩ := HCE.out Z hT
      go_simp
      rfl
    simp only [Act.put, List.setIfInBounds_toArray, List.set_cons_zero, List.set_cons_succ, List.getElem_toArray, List.getElem_cons_zero, List.getElem_cons_succ]
    refine RG.RunsIf.weak (v := ?_) (by rfl) (by rfl) (fun Z hT => ?_) ?_
    rotate_left
    · obtain ⟨c0, c1, c2, c3, c4⟩ := HCE.out Z hT
      go_simp
      rfl
    simp only [Act.put, List.setIfInBounds_toArray, List.set_cons_zero, List.set_cons_succ, List.getElem_toArray, List.getElem_cons_zero, List.getElem_cons_succ]
    refine RG.RunsIf.weak (v := ?_) (by rfl) (by rfl) (fun Z hT => ?_) ?_
    rotate_left
    · obtain ⟨c0, c1, c2, c3, c4⟩ := HCE.out Z hT
      go_simp
      rfl
    simp only [Act.put, List.setIfInBounds_toArray, List.set_cons_zero, List.set_cons_succ, List.getElem_toArray, List.getElem_cons_zero, List.getElem_cons_succ]
    refine RG.RunsIf.weak (v := ?_) (by rfl) (by rfl) (fun Z hT => ?_) ?_
    rotate_left
    · obtain ⟨c0, c1, c2, c3, c4⟩ := HCE.out Z hT
      go_simp
      rfl
    simp only [Act.put, List.setIfInBounds_toArray, List.set_cons_zero, List.set_cons_succ, List.getElem_toArray, List.getElem_cons_zero, List.getElem_cons_succ]
    refine RG.RunsIf.weak (v := ?_) (by rfl) (by rfl) (fun Z hT => ?_) ?_
    rotate_left
    · obtain ⟨c0, c1, c2, c3, c4⟩ := HCE.out Z hT
      go_simp
      rfl
    simp only [Act.put, List.setIfInBounds_toArray, List.set_cons_zero, List.set_cons_succ, List.getElem_toArray, List.getElem_cons_zero, List.getElem_cons_succ]
    exact RG.RunsIf.nil
  refine RG.wpL_step (i := 8) (by kernel_rfl) (by rfl) (by rfl) (fun KX hK => ?_)
  have HK := TW.hide hK
  clear hK
  go_simp
  refine HK.out _ _ H3.out (fun _ => trivial) ?_
  clear HK KX
  refine RG.wpL_step (i := 9) (by kernel_rfl) (by rfl) (by rfl) (fun KX hK => ?_)
  have HK := TW.hide hK
  clear hK
  go_simp
  refine HK.out _ _ H3.out (fun _ => trivial) ?_
  clear HK KX
  refine RG.wpL_step (i := 10) (by kernel_rfl) (by rfl) (by rfl) (fun KX hK => ?_)
  have HK := TW.hide hK
  clear hK
  go_simp
  refine HK.out _ _ H3.out (fun _ => trivial) ?_
  clear HK KX
  refine RG.wpL_step (i := 11) (by kernel_rfl) (by rfl) (by rfl) (fun KX hK => ?_)
  have HK := TW.hide hK
  clear hK
  go_simp
  refine HK.out _ _ H3.out (fun _ => trivial) ?_
  clear HK KX
  refine RG.wpL_done (by kernel_rfl) ?_ _
  refine NoPanic.normal ?_
  refine HK0.out _ _ ?_
  clear HK0 KK HCE
  refine wp_seq_k fun KK hK => ?_
  have HK0 := TW.hide hK
  clear hK
  refine wp_region_noPanic ?_
  refine RG.wp_region_L (fun Z => True) (fun Z => Below w1.heap.size w1 Z) [] (by kernel_rfl) ?_
  refine RG.wpL_any fun Y4 hY => ?_
  have H4 : Hid (Below w1.heap.size w1 Y4) := by rw [hY]; exact below_drewN H3.out 1
  clear hY H3
  refine RG.wpL_take (fuel := 6) (a' := ?A4) [0, 1, 3, 4, 6] (by kernel_rfl) (by kernel_rfl) (fun _ _ _ _ _ h => h) H4.out (fun _ => trivial) ?r4 ?_
  case r4 =>
    refine RG.RunsIf.weak (v := ?_) (by rfl) (by rfl) (fun Z hT => ?_) ?_
    rotate_left
    · obtain ⟨c0, c1, c2⟩ := HCP.out Z hT
      go_simp
      rfl
    simp only [Act.put, List.setIfInBounds_toArray, List.set_cons_zero, List.set_cons_succ, List.getElem_toArray, List.getElem_cons_zero, List.getElem_cons_succ]
    refine RG.RunsIf.weak (v := ?_) (by rfl) (by rfl) (fun Z hT => ?_) ?_
    rotate_left
    · obtain ⟨c0, c1, c2⟩ := HCP.out Z hT
      go_simp
      rfl
    simp only [Act.put, List.setIfInBounds_toArray, List.set_cons_zero, List.set_cons_succ, List.getElem_toArray, List.getElem_cons_zero, List.getElem_cons_succ]
    refine RG.RunsIf.weak (v := ?_) (by rfl) (by rfl) (fun Z hT => ?_) ?_
    rotate_left
    · obtain ⟨c0, c1, c2⟩ := HCP.out Z hT
      go_simp
      rfl
    simp only [Act.put, List.setIfInBounds_toArray, List.set_cons_zero, List.set_cons_succ, List.getElem_toArray, List.getElem_cons_zero, List.getElem_cons_succ]
    refine RG.RunsIf.weak (v := ?_) (by rfl) (by rfl) (fun Z hT => ?_) ?_
    rotate_left
    · obtain ⟨c0, c1, c2⟩ := HCP.out Z hT
      go_simp
      rfl
    simp only [Act.put, List.setIfInBounds_toArray, List.set_cons_zero, List.set_cons_succ, List.getElem_toArray, List.getElem_cons_zero, List.getElem_cons_succ]
    refine RG.RunsIf.weak (v := ?_) (by rfl) (by rfl) (fun Z hT => ?_) ?_
    rotate_left
    · obtain ⟨c0, c1, c2⟩ := HCP.out Z hT
      go_simp
      rfl
    simp only [Act.put, List.setIfInBounds_toArray, List.set_cons_zero, List.set_cons_succ, List.getElem_toArray, List.getElem_cons_zero, List.getElem_cons_succ]
    exact RG.RunsIf.nil
  refine RG.wpL_step (i := 2) (by kernel_rfl) (by rfl) (by rfl) (fun KX hK => ?_)
  have HK := TW.hide hK
  clear hK
  go_simp
  refine (WS.out Y4 (hB ▸ (NB.out.trans (H4.out.mono hB1)))).mono ?_
  rintro e u1 ⟨gs, cs, rfl, ps, hbx⟩
  have H5 : Hid (Below w1.heap.size w1 u1) := H4.out.trans (hbx.mono H4.out.size)
  have A1 := TW.hide ps
  refine HK.out _ _ H5.out (fun _ => trivial) ?_
  clear HK KX hbx H4 ps
  refine RG.wpL_step (i := 5) (by kernel_rfl) (by rfl) (by rfl) (fun KX hK => ?_)
  have HK := TW.hide hK
  clear hK
  go_simp
  refine (WT.out u1 (hB ▸ (NB.out.trans (H5.out.mono hB1)))).mono ?_
  rintro e u2 ⟨gt, ct, rfl, pt, hbx⟩
  have H6 : Hid (Below w1.heap.size w1 u2) := H5.out.trans (hbx.mono H5.out.size)
  have A2 := TW.hide pt
  have A1' := TW.hide (A1.out.below hbx)
  refine HK.out _ _ H6.out (fun _ => trivial) ?_
  clear HK KX hbx H5 pt A1
  refine RG.wpL_step (i := 7) (by kernel_rfl) (by rfl) (by rfl) (fun KX hK => ?_)
  have HK := TW.hide hK
  clear hK
  go_simp
  refine (WF.out u2 (hB ▸ (NB.out.trans (H6.out.mono hB1)))).mono ?_
  rintro e u3 ⟨gf, cf', rfl, pf, hbx⟩
  have H7 : Hid (Below w1.heap.size w1 u3) := H6.out.trans (hbx.mono H6.out.size)
  have A3 := TW.hide pf
  have A1 := TW.hide (A1'.out.below hbx)
  have A2' := TW.hide (A2.out.below hbx)
  refine HK.out _ _ H7.out (fun _ => trivial) ?_
  clear HK KX hbx H6 pf A1' A2
  refine RG.wpL_step (i := 8) (by kernel_rfl) (by rfl) (by rfl) (fun KX hK => ?_)
  have HK := TW.hide hK
  clear hK
  go_simp
  refine HK.out _ _ H7.out (fun _ => trivial) ?_
  clear HK KX
  refine RG.wpL_step (i := 9) (by kernel_rfl) (by rfl) (by rfl) (fun KX hK => ?_)
  have HK := TW.hide hK
  clear hK
  go_simp
  refine HK.out _ _ H7.out (fun _ => trivial) ?_
  clear HK KX
  refine RG.wpL_step (i := 10) (by kernel_rfl) (by rfl) (by rfl) (fun KX hK => ?_)
  have HK := TW.hide hK
  clear hK
  go_simp
  refine HK.out _ _ H7.out (fun _ => trivial) ?_
  clear HK KX
  refine RG.wpL_done (by kernel_rfl) ?_ _
  refine NoPanic.normal ?_
  refine HK0.out _ _ ?_
  clear HK0 KK
  have hcs := C1.out _ _ _ A1.out
  have hct := C2.out _ _ _ A2'.out
  have hcf := C3.out _ _ _ A3.out
  clear C1 C2 C3 WS WT WF
  have M0 := TW.hide (blk_keepM N0.out H7.out)
  have nq := setRow_heap _ _ _ (pcP p (.slice sa sl sc) (.slice ta tl tc)) _ _ (heap_new u3 (.cells #[.int .i64 0, .int .i64 0, .int .i64 0, .int .i64 0, .int .u32 0, .int .u64 0, .int .u32 0, .int .i64 0, .int .i64 0, .slice none 0 0, .slice none 0 0] 26))
  have bx := below_setRow (cs := (pcP p (.slice sa sl sc) (.slice ta tl tc))) ((Below.refl u3.heap.size u3).alloc (Nat.le_refl _) (.cells #[.int .i64 0, .int .i64 0, .int .i64 0, .int .i64 0, .int .u32 0, .int .u64 0, .int .u32 0, .int .i64 0, .int .i64 0, .slice none 0 0, .slice none 0 0] 26)) (g := u3.heap.size) (Nat.le_refl _)
  have NQ := TW.hide nq
  have BX := TW.hide bx
  clear nq bx
  refine wp_seq_k fun KK hK => ?_
  have HK := TW.hide hK
  clear hK
  go_wp2_with (first | (refine wpList_store_row (by rfl) 26 _ _ (by rfl) (u3.heap.size) (pcP p (.slice sa sl sc) (.slice ta tl tc)) (by rfl) (by rfl) 26 _ (heap_new u3 _) (info31 _ _ _) (pc_size Pm.zero _ _ _ _ _) (pc_one _ _ _ _ _ _ _) ?_) | (refine wpList_val (.agg (pcP p (.slice sa sl sc) (.slice ta tl tc))) (by rfl) (exec_load_row' 26 _ (by rfl) (B) (by rfl) 26 (pcP p (.slice sa sl sc) (.slice ta tl tc)) (0, 0) _ M0.out Try.underlying26 rfl (info31 _ _ _)) ?_; simp only [Act.put, List.setIfInBounds_toArray, List.set_cons_zero, List.set_cons_succ, List.getElem_toArray, List.getElem_cons_zero, List.getElem_cons_succ]))
  generalize ((u3.alloc (.cells #[.int .i64 0, .int .i64 0, .int .i64 0, .int .i64 0, .int .u32 0, .int .u64 0, .int .u32 0, .int .i64 0, .int .i64 0, .slice none 0 0, .slice none 0 0] 26)).setRow u3.heap.size (pcP p (.slice sa sl sc) (.slice ta tl tc))) = X5 at *
  generalize hgq : u3.heap.size = gq at *
  refine HK.out _ _ ?_
  clear HK KK
  have hgqB : B < gq := by have := blk_ltM M0.out; omega
  have hg1 : w1.heap.size ≤ gq := by have := H7.out.size; omega
  have K5 : Hid (Below gq u3 X5) := BX.out
  clear BX M0
  obtain ⟨_, c9, c10⟩ := HCP.out X5 (H7.out.trans (K5.out.mono hg1))
  have fz := blk_frozen (i := 9) NQ.out
  have cz := blk_cell (i := 9) NQ.out rfl
  have nq : (X5.setCell ⟨gq, 9, none⟩ (.slice (some ⟨gs, 0, none⟩) sl cs)).heap[gq]? = some (.cells (pcP p (.slice (some ⟨gs, 0, none⟩) sl cs) (.slice ta tl tc)) 26 (0, 0)) := by
    have := blk_set (i := 9) (u := (.slice (some ⟨gs, 0, none⟩) sl cs)) NQ.out
    simpa [pcP, pc] using this
  have k5 : Below gq u3 (X5.setCell ⟨gq, 9, none⟩ (.slice (some ⟨gs, 0, none⟩) sl cs)) := K5.out.setCell (Nat.le_refl _) _
  have NQ' := TW.hide nq
  have K5' := TW.hide k5
  clear nq k5 NQ K5
  refine wp_seq_k fun KK hK => ?_
  have HK := TW.hide hK
  clear hK
  go_wp2_with (refine wpList_val (.slice (some ⟨gs, 0, none⟩) sl cs) (by rfl) (exec_sliceH 24 _ _ (by rfl) gs 0 (sl + 70) cs sl _ 5 (by rfl) (by rfl) rfl hcs Try.underlying24 size5) ?_; simp only [Act.put, List.setIfInBounds_toArray, List.set_cons_zero, List.set_cons_succ, List.getElem_toArray, List.getElem_cons_zero, List.getElem_cons_succ])
  generalize X5.setCell ⟨gq, 9, none⟩ (.slice (some ⟨gs, 0, none⟩) sl cs) = X6 at *
  refine HK.out _ _ ?_
  clear HK KK
  have NQ := TW.hide NQ'.out
  have K5 := TW.hide K5'.out
  clear NQ' K5' c9 c10 fz cz
  obtain ⟨_, c9, c10⟩ := HCP.out X6 (H7.out.trans (K5.out.mono hg1))
  have fz := blk_frozen (i := 10) NQ.out
  have cz := blk_cell (i := 10) NQ.out rfl
  have nq : (X6.setCell ⟨gq, 10, none⟩ (.slice (some ⟨gt, 0, none⟩) tl ct)).heap[gq]? = some (.cells (pcP p (.slice (some ⟨gs, 0, none⟩) sl cs) (.slice (some ⟨gt, 0, none⟩) tl ct)) 26 (0, 0)) := by
    have := blk_set (i := 10) (u := (.slice (some ⟨gt, 0, none⟩) tl ct)) NQ.out
    simpa [pcP, pc] using this
  have k5 : Below gq u3 (X6.setCell ⟨gq, 10, none⟩ (.slice (some ⟨gt, 0, none⟩) tl ct)) := K5.out.setCell (Nat.le_refl _) _
  have NQ' := TW.hide nq
  have K5' := TW.hide k5
  clear nq k5 NQ K5
  refine wp_seq_k fun KK hK => ?_
  have HK := TW.hide hK
  clear hK
  go_wp2_with (refine wpList_val (.slice (some ⟨gt, 0, none⟩) tl ct) (by rfl) (exec_sliceH 24 _ _ (by rfl) gt 0 (tl + 70) ct tl _ 5 (by rfl) (by rfl) rfl hct Try.underlying24 size5) ?_; simp only [Act.put, List.setIfInBounds_toArray, List.set_cons_zero, List.set_cons_succ, List.getElem_toArray, List.getElem_cons_zero, List.getElem_cons_succ])
  generalize X6.setCell ⟨gq, 10, none⟩ (.slice (some ⟨gt, 0, none⟩) tl ct) = X7 at *
  refine HK.out _ _ ?_
  clear HK KK
  have NQ := TW.hide NQ'.out
  have K5 := TW.hide K5'.out
  clear NQ' K5' c9 c10 fz cz
  refine wp_seq_k fun KK hK => ?_
  have HK := TW.hide hK
  clear hK
  go_wp2_with (refine wpList_val (.slice (some ⟨gf, 0, none⟩) len cf') (by rfl) (exec_sliceH 24 _ _ (by rfl) gf 0 (len + 70) cf' len _ 5 (by rfl) (by rfl) rfl hcf Try.underlying24 size5) ?_; simp only [Act.put, List.setIfInBounds_toArray, List.set_cons_zero, List.set_cons_succ, List.getElem_toArray, List.getElem_cons_zero, List.getElem_cons_succ])
  refine HK.out _ _ ?_
  clear HK KK
  have NQ0 := TW.hide NQ.out
  have M0 : Hid (Below w1.heap.size w1 X7) := H7.out.trans (K5.out.mono hg1)
  have NB8 : Hid (Below B w X7) := NB.out.trans (M0.out.mono hB1)
  have WS := TW.hide (A1.out.below (hgq ▸ K5.out))
  have WT := TW.hide (A2'.out.below (hgq ▸ K5.out))
  have WF := TW.hide (A3.out.below (hgq ▸ K5.out))
  have NP := TW.hide (blk_keepM N0.out M0.out)
  have hB8 : B ≤ X7.heap.size := by have := M0.out.size; omega
  have HY : Hid (Below X7.heap.size X7 X7) := Below.refl _ _
  clear A1 A2' A3 K5 NQ hgq hgqB hg1 H7 M0 N0 N1 NB HCP hcs hct hcf
  refine wp_seq_k fun KK hK => ?_
  have HK := TW.hide hK
  clear hK
  have nq := TW.hide (blk_keepM NQ0.out HY.out)
  go_wp2_with (refine wpList_val (.agg (pcP p (.slice (some ⟨gs, 0, none⟩) sl cs) (.slice (some ⟨gt, 0, none⟩) tl ct))) (by rfl) (exec_load_row' 26 _ (by rfl) (gq) (by rfl) 26 (pcP p (.slice (some ⟨gs, 0, none⟩) sl cs) (.slice (some ⟨gt, 0, none⟩) tl ct)) (0, 0) _ nq.out Try.underlying26 rfl (info31 _ _ _)) ?_; simp only [Act.put, List.setIfInBounds_toArray, List.set_cons_zero, List.set_cons_succ, List.getElem_toArray, List.getElem_cons_zero, List.getElem_cons_succ])
  refine (NO.out _ _ _ _ _ (WS.out.below HY.out) (WT.out.below HY.out)).mono ?_
  rintro e w9 ⟨P9, a9, n9, c9, b9, m9, d9, E9, rfl, o1, o2, hb⟩
  have o1' := o1.mono HY.out.size
  have o2' := o2.mono HY.out.size
  have HY1 : Hid (Below X7.heap.size X7 w9) := HY.out.trans (hb.mono HY.out.size)
  clear HY
  have N1_1 := TW.hide (o1')
  have N2_1 := TW.hide (o2')
  clear o1 o2 o1' o2' hb nq NO
  have nx := setRow_heap _ _ _ (pcP P9 (.slice a9 n9 c9) (.slice b9 m9 d9)) _ _ (heap_new w9 (.cells #[.int .i64 0, .int .i64 0, .int .i64 0, .int .i64 0, .int .u32 0, .int .u64 0, .int .u32 0, .int .i64 0, .int .i64 0, .slice none 0 0, .slice none 0 0] 26))
  have bx := below_setRow (cs := (pcP P9 (.slice a9 n9 c9) (.slice b9 m9 d9))) ((Below.refl w9.heap.size w9).alloc (Nat.le_refl _) (.cells #[.int .i64 0, .int .i64 0, .int .i64 0, .int .i64 0, .int .u32 0, .int .u64 0, .int .u32 0, .int .i64 0, .int .i64 0, .slice none 0 0, .slice none 0 0] 26)) (g := w9.heap.size) (Nat.le_refl _)
  have HY2 : Hid (Below X7.heap.size X7 ((w9.alloc (.cells #[.int .i64 0, .int .i64 0, .int .i64 0, .int .i64 0, .int .u32 0, .int .u64 0, .int .u32 0, .int .i64 0, .int .i64 0, .slice none 0 0, .slice none 0 0] 26)).setRow w9.heap.size (pcP P9 (.slice a9 n9 c9) (.slice b9 m9 d9)))) := HY1.out.trans (bx.mono HY1.out.size)
  have N1_2 := TW.hide (N1_1.out.below bx)
  have N2_2 := TW.hide (N2_1.out.below bx)
  clear HY1 N1_1 N2_1
  have B9_2 := TW.hide (nx)
  clear nx bx
  go_wp2_with (first | (refine wpList_store_row (by rfl) 26 _ _ (by rfl) (w9.heap.size) (pcP P9 (.slice a9 n9 c9) (.slice b9 m9 d9)) (by rfl) (by rfl) 26 _ (heap_new w9 _) (info31 _ _ _) (pc_size Pm.zero _ _ _ _ _) (pc_one _ _ _ _ _ _ _) ?_))
  generalize ((w9.alloc (.cells #[.int .i64 0, .int .i64 0, .int .i64 0, .int .i64 0, .int .u32 0, .int .u64 0, .int .u32 0, .int .i64 0, .int .i64 0, .slice none 0 0, .slice none 0 0] 26)).setRow w9.heap.size (pcP P9 (.slice a9 n9 c9) (.slice b9 m9 d9))) = X9 at *
  generalize w9.heap.size = g9 at *
  refine HK.out _ _ ?_
  clear HK KK
  refine wp_seq_k fun KK hK => ?_
  have HK := TW.hide hK
  clear hK
  have nq := TW.hide (blk_keepM NQ0.out HY2.out)
  go_wp2_with (refine wpList_val (.agg (pcP p (.slice (some ⟨gs, 0, none⟩) sl cs) (.slice (some ⟨gt, 0, none⟩) tl ct))) (by rfl) (exec_load_row' 26 _ (by rfl) (gq) (by rfl) 26 (pcP p (.slice (some ⟨gs, 0, none⟩) sl cs) (.slice (some ⟨gt, 0, none⟩) tl ct)) (0, 0) _ nq.out Try.underlying26 rfl (info31 _ _ _)) ?_; simp only [Act.put, List.setIfInBounds_toArray, List.set_cons_zero, List.set_cons_succ, List.getElem_toArray, List.getElem_cons_zero, List.getElem_cons_succ])
  refine (EN.out _ _ _ _ _ (WS.out.below HY2.out) (WT.out.below HY2.out)).mono ?_
  rintro e w10 ⟨a10, n10, c10, E10, rfl, o1, hb⟩
  have o1' := o1.mono HY2.out.size
  have HY3 : Hid (Below X7.heap.size X7 w10) := HY2.out.trans (hb.mono HY2.out.size)
  have N1_3 := TW.hide (N1_2.out.below hb)
  have N2_3 := TW.hide (N2_2.out.below hb)
  have B9_3 := TW.hide (blk_keepM B9_2.out hb)
  clear HY2 N1_2 N2_2 B9_2
  have A1_3 := TW.hide (o1')
  clear o1 o1' hb nq EN
  go_wp2
  refine HK.out _ _ ?_
  clear HK KK
  refine wp_seq_k fun KK hK => ?_
  have HK := TW.hide hK
  clear hK
  have c6 : w10.cell? ⟨B, 6, none⟩ = some (.int .u32 p.xof) := blk_cell (i := 6) (blk_keepM NP.out HY3.out) rfl
  go_wp2_with fail
  refine (DE.out _ _ _ (WF.out.below HY3.out)).mono ?_
  rintro e w11 ⟨P11, a11, n11, c11, b11, m11, d11, E11, rfl, o1, o2, hb⟩
  have o1' := o1.mono HY3.out.size
  have o2' := o2.mono HY3.out.size
  have HY4 : Hid (Below X7.heap.size X7 w11) := HY3.out.trans (hb.mono HY3.out.size)
  have N1_4 := TW.hide (N1_3.out.below hb)
  have N2_4 := TW.hide (N2_3.out.below hb)
  have B9_4 := TW.hide (blk_keepM B9_3.out hb)
  have A1_4 := TW.hide (A1_3.out.below hb)
  clear HY3 N1_3 N2_3 B9_3 A1_3
  have M1_4 := TW.hide (o1')
  have M2_4 := TW.hide (o2')
  clear o1 o2 o1' o2' hb c6 DE
  have nx := setRow_heap _ _ _ (pcP P11 (.slice a11 n11 c11) (.slice b11 m11 d11)) _ _ (heap_new w11 (.cells #[.int .i64 0, .int .i64 0, .int .i64 0, .int .i64 0, .int .u32 0, .int .u64 0, .int .u32 0, .int .i64 0, .int .i64 0, .slice none 0 0, .slice none 0 0] 26))
  have bx := below_setRow (cs := (pcP P11 (.slice a11 n11 c11) (.slice b11 m11 d11))) ((Below.refl w11.heap.size w11).alloc (Nat.le_refl _) (.cells #[.int .i64 0, .int .i64 0, .int .i64 0, .int .i64 0, .int .u32 0, .int .u64 0, .int .u32 0, .int .i64 0, .int .i64 0, .slice none 0 0, .slice none 0 0] 26)) (g := w11.heap.size) (Nat.le_refl _)
  have HY5 : Hid (Below X7.heap.size X7 ((w11.alloc (.cells #[.int .i64 0, .int .i64 0, .int .i64 0, .int .i64 0, .int .u32 0, .int .u64 0, .int .u32 0, .int .i64 0, .int .i64 0, .slice none 0 0, .slice none 0 0] 26)).setRow w11.heap.size (pcP P11 (.slice a11 n11 c11) (.slice b11 m11 d11)))) := HY4.out.trans (bx.mono HY4.out.size)
  have N1_5 := TW.hide (N1_4.out.below bx)
  have N2_5 := TW.hide (N2_4.out.below bx)
  have B9_5 := TW.hide (blk_keepM B9_4.out bx)
  have A1_5 := TW.hide (A1_4.out.below bx)
  have M1_5 := TW.hide (M1_4.out.below bx)
  have M2_5 := TW.hide (M2_4.out.below bx)
  clear HY4 N1_4 N2_4 B9_4 A1_4 M1_4 M2_4
  have B11_5 := TW.hide (nx)
  clear nx bx
  go_wp2_with (first | (refine wpList_store_row (by rfl) 26 _ _ (by rfl) (w11.heap.size) (pcP P11 (.slice a11 n11 c11) (.slice b11 m11 d11)) (by rfl) (by rfl) 26 _ (heap_new w11 _) (info31 _ _ _) (pc_size Pm.zero _ _ _ _ _) (pc_one _ _ _ _ _ _ _) ?_))
  generalize ((w11.alloc (.cells #[.int .i64 0, .int .i64 0, .int .i64 0, .int .i64 0, .int .u32 0, .int .u64 0, .int .u32 0, .int .i64 0, .int .i64 0, .slice none 0 0, .slice none 0 0] 26)).setRow w11.heap.size (pcP P11 (.slice a11 n11 c11) (.slice b11 m11 d11))) = X11 at *
  generalize w11.heap.size = g11 at *
  refine HK.out _ _ ?_
  clear HK KK
  refine wp_seq_k fun KK hK => ?_
  have HK := TW.hide hK
  clear hK
  go_wp2_with fail
  refine (PU.out _ _ _ (WF.out.below HY5.out)).mono ?_
  rintro e w12 ⟨a12, n12, c12, E12, rfl, o1, hb⟩
  have o1' := o1.mono HY5.out.size
  have HY6 : Hid (Below X7.heap.size X7 w12) := HY5.out.trans (hb.mono HY5.out.size)
  have N1_6 := TW.hide (N1_5.out.below hb)
  have N2_6 := TW.hide (N2_5.out.below hb)
  have B9_6 := TW.hide (blk_keepM B9_5.out hb)
  have A1_6 := TW.hide (A1_5.out.below hb)
  have M1_6 := TW.hide (M1_5.out.below hb)
  have M2_6 := TW.hide (M2_5.out.below hb)
  have B11_6 := TW.hide (blk_keepM B11_5.out hb)
  clear HY5 N1_5 N2_5 B9_5 A1_5 M1_5 M2_5 B11_5
  have C1_6 := TW.hide (o1')
  clear o1 o1' hb PU
  go_wp2
  refine HK.out _ _ ?_
  clear HK KK
  refine wp_seq_k fun KK hK => ?_
  have HK := TW.hide hK
  clear hK
  have cc : w12.cell? ⟨g9, 9, none⟩ = some (.slice a9 n9 c9) := blk_cell (i := 9) B9_6.out rfl
  go_wp2_with fail
  refine (spoilW N1_6.out HY6.out.size).mono ?_
  rintro e w13 ⟨⟨v13, rfl⟩, hb, hu⟩
  have HY7 : Hid (Below X7.heap.size X7 w13) := HY6.out.trans hb
  have N1_7 := TW.hide (N1_6.out.U hu)
  have N2_7 := TW.hide (N2_6.out.U hu)
  have B9_7 := TW.hide (hu.two _ _ _ _ B9_6.out (by decide))
  have A1_7 := TW.hide (A1_6.out.U hu)
  have M1_7 := TW.hide (M1_6.out.U hu)
  have M2_7 := TW.hide (M2_6.out.U hu)
  have B11_7 := TW.hide (hu.two _ _ _ _ B11_6.out (by decide))
  have C1_7 := TW.hide (C1_6.out.U hu)
  clear HY6 N1_6 N2_6 B9_6 A1_6 M1_6 M2_6 B11_6 C1_6
  clear hb hu cc
  go_wp2
  refine HK.out _ _ ?_
  clear HK KK
  refine wp_seq_k fun KK hK => ?_
  have HK := TW.hide hK
  clear hK
  have cc : w13.cell? ⟨g9, 10, none⟩ = some (.slice b9 m9 d9) := blk_cell (i := 10) B9_7.out rfl
  go_wp2_with fail
  refine (spoilW N2_7.out HY7.out.size).mono ?_
  rintro e w14 ⟨⟨v14, rfl⟩, hb, hu⟩
  have HY8 : Hid (Below X7.heap.size X7 w14) := HY7.out.trans hb
  have N1_8 := TW.hide (N1_7.out.U hu)
  have N2_8 := TW.hide (N2_7.out.U hu)
  have B9_8 := TW.hide (hu.two _ _ _ _ B9_7.out (by decide))
  have A1_8 := TW.hide (A1_7.out.U hu)
  have M1_8 := TW.hide (M1_7.out.U hu)
  have M2_8 := TW.hide (M2_7.out.U hu)
  have B11_8 := TW.hide (hu.two _ _ _ _ B11_7.out (by decide))
  have C1_8 := TW.hide (C1_7.out.U hu)
  clear HY7 N1_7 N2_7 B9_7 A1_7 M1_7 M2_7 B11_7 C1_7
  clear hb hu cc
  go_wp2
  refine HK.out _ _ ?_
  clear HK KK
  refine wp_seq_k fun KK hK => ?_
  have HK := TW.hide hK
  clear hK
  go_wp2_with fail
  refine (spoilW A1_8.out HY8.out.size).mono ?_
  rintro e w15 ⟨⟨v15, rfl⟩, hb, hu⟩
  have HY9 : Hid (Below X7.heap.size X7 w15) := HY8.out.trans hb
  have N1_9 := TW.hide (N1_8.out.U hu)
  have N2_9 := TW.hide (N2_8.out.U hu)
  have B9_9 := TW.hide (hu.two _ _ _ _ B9_8.out (by decide))
  have A1_9 := TW.hide (A1_8.out.U hu)
  have M1_9 := TW.hide (M1_8.out.U hu)
  have M2_9 := TW.hide (M2_8.out.U hu)
  have B11_9 := TW.hide (hu.two _ _ _ _ B11_8.out (by decide))
  have C1_9 := TW.hide (C1_8.out.U hu)
  clear HY8 N1_8 N2_8 B9_8 A1_8 M1_8 M2_8 B11_8 C1_8
  clear hb hu
  go_wp2
  refine HK.out _ _ ?_
  clear HK KK
  refine wp_seq_k fun KK hK => ?_
  have HK := TW.hide hK
  clear hK
  have cc : w15.cell? ⟨g11, 9, none⟩ = some (.slice a11 n11 c11) := blk_cell (i := 9) B11_9.out rfl
  go_wp2_with fail
  refine (spoilW M1_9.out HY9.out.size).mono ?_
  rintro e w16 ⟨⟨v16, rfl⟩, hb, hu⟩
  have HY10 : Hid (Below X7.heap.size X7 w16) := HY9.out.trans hb
  have N1_10 := TW.hide (N1_9.out.U hu)
  have N2_10 := TW.hide (N2_9.out.U hu)
  have B9_10 := TW.hide (hu.two _ _ _ _ B9_9.out (by decide))
  have A1_10 := TW.hide (A1_9.out.U hu)
  have M1_10 := TW.hide (M1_9.out.U hu)
  have M2_10 := TW.hide (M2_9.out.U hu)
  have B11_10 := TW.hide (hu.two _ _ _ _ B11_9.out (by decide))
  have C1_10 := TW.hide (C1_9.out.U hu)
  clear HY9 N1_9 N2_9 B9_9 A1_9 M1_9 M2_9 B11_9 C1_9
  clear hb hu cc
  go_wp2
  refine HK.out _ _ ?_
  clear HK KK
  refine wp_seq_k fun KK hK => ?_
  have HK := TW.hide hK
  clear hK
  have cc : w16.cell? ⟨g11, 10, none⟩ = some (.slice b11 m11 d11) := blk_cell (i := 10) B11_10.out rfl
  go_wp2_with fail
  refine (spoilW M2_10.out HY10.out.size).mono ?_
  rintro e w17 ⟨⟨v17, rfl⟩, hb, hu⟩
  have HY11 : Hid (Below X7.heap.size X7 w17) := HY10.out.trans hb
  have N1_11 := TW.hide (N1_10.out.U hu)
  have N2_11 := TW.hide (N2_10.out.U hu)
  have B9_11 := TW.hide (hu.two _ _ _ _ B9_10.out (by decide))
  have A1_11 := TW.hide (A1_10.out.U hu)
  have M1_11 := TW.hide (M1_10.out.U hu)
  have M2_11 := TW.hide (M2_10.out.U hu)
  have B11_11 := TW.hide (hu.two _ _ _ _ B11_10.out (by decide))
  have C1_11 := TW.hide (C1_10.out.U hu)
  clear HY10 N1_10 N2_10 B9_10 A1_10 M1_10 M2_10 B11_10 C1_10
  clear hb hu cc
  go_wp2
  refine HK.out _ _ ?_
  clear HK KK
  refine wp_seq_k fun KK hK => ?_
  have HK := TW.hide hK
  clear hK
  go_wp2_with fail
  refine (spoilW C1_11.out HY11.out.size).mono ?_
  rintro e w18 ⟨⟨v18, rfl⟩, hb, hu⟩
  have HY12 : Hid (Below X7.heap.size X7 w18) := HY11.out.trans hb
  have N1_12 := TW.hide (N1_11.out.U hu)
  have N2_12 := TW.hide (N2_11.out.U hu)
  have B9_12 := TW.hide (hu.two _ _ _ _ B9_11.out (by decide))
  have A1_12 := TW.hide (A1_11.out.U hu)
  have M1_12 := TW.hide (M1_11.out.U hu)
  have M2_12 := TW.hide (M2_11.out.U hu)
  have B11_12 := TW.hide (hu.two _ _ _ _ B11_11.out (by decide))
  have C1_12 := TW.hide (C1_11.out.U hu)
  clear HY11 N1_11 N2_11 B9_11 A1_11 M1_11 M2_11 B11_11 C1_11
  clear hb hu
  go_wp2
  refine HK.out _ _ ?_
  clear HK KK
  refine wp_seq_k fun KK hK => ?_
  have HK := TW.hide hK
  clear hK
  have cc : w18.cell? ⟨B, 9, none⟩ = some (.slice sa sl sc) := blk_cell (i := 9) (blk_keepM NP.out HY12.out) rfl
  go_wp2_with fail
  refine (KS.out _ (hB ▸ (NB8.out.trans (HY12.out.mono hB8))) _ _ (WS.out.below HY12.out)).mono ?_
  rintro e w19a ⟨rfl, hb⟩
  have HY13 : Hid (Below X7.heap.size X7 w19a) := HY12.out.trans (hb.mono HY12.out.size)
  clear HY12
  clear hb cc
  have cc : w19a.cell? ⟨B, 10, none⟩ = some (.slice ta tl tc) := blk_cell (i := 10) (blk_keepM NP.out HY13.out) rfl
  go_wp2_with fail
  refine (KT.out _ (hB ▸ (NB8.out.trans (HY13.out.mono hB8))) _ _ (WT.out.below HY13.out)).mono ?_
  rintro e w19b ⟨rfl, hb⟩
  have HY14 : Hid (Below X7.heap.size X7 w19b) := HY13.out.trans (hb.mono HY13.out.size)
  clear HY13
  clear hb cc
  go_wp2_with fail
  refine (KF.out _ (hB ▸ (NB8.out.trans (HY14.out.mono hB8))) _ _ (WF.out.below HY14.out)).mono ?_
  rintro e w19c ⟨rfl, hb⟩
  have HY15 : Hid (Below X7.heap.size X7 w19c) := HY14.out.trans (hb.mono HY14.out.size)
  clear HY14
  clear hb
  go_wp2
  refine HK.out _ _ ?_
  clear HK KK
  refine wp_seq_k fun KK hK => ?_
  have HK := TW.hide hK
  clear hK
  have nq := TW.hide (blk_keepM NQ0.out HY15.out)
  go_wp2_with (refine wpList_val (.agg (pcP p (.slice (some ⟨gs, 0, none⟩) sl cs) (.slice (some ⟨gt, 0, none⟩) tl ct))) (by rfl) (exec_load_row' 26 _ (by rfl) (gq) (by rfl) 26 (pcP p (.slice (some ⟨gs, 0, none⟩) sl cs) (.slice (some ⟨gt, 0, none⟩) tl ct)) (0, 0) _ nq.out Try.underlying26 rfl (info31 _ _ _)) ?_; simp only [Act.put, List.setIfInBounds_toArray, List.set_cons_zero, List.set_cons_succ, List.getElem_toArray, List.getElem_cons_zero, List.getElem_cons_succ])
  refine (EN2.out _ _ _ _ _ (WS.out.below HY15.out) (WT.out.below HY15.out)).mono ?_
  rintro e w21 ⟨a21, c21, rfl, pa, _, _, hb⟩
  have HY16 : Hid (Below X7.heap.size X7 w21) := HY15.out.trans (hb.mono HY15.out.size)
  clear HY15
  have RB_16 := TW.hide (pa.row)
  clear pa hb nq EN2
  go_wp2
  refine HK.out _ _ ?_
  clear HK KK
  refine wp_seq_k fun KK hK => ?_
  have HK := TW.hide hK
  clear hK
  have nq := TW.hide (blk_keepM NP.out HY16.out)
  go_wp2_with (refine wpList_val (.agg (pcP p (.slice sa sl sc) (.slice ta tl tc))) (by rfl) (exec_load_row' 26 _ (by rfl) (B) (by rfl) 26 (pcP p (.slice sa sl sc) (.slice ta tl tc)) (0, 0) _ nq.out Try.underlying26 rfl (info31 _ _ _)) ?_; simp only [Act.put, List.setIfInBounds_toArray, List.set_cons_zero, List.set_cons_succ, List.getElem_toArray, List.getElem_cons_zero, List.getElem_cons_succ])
  refine (REN.out _ (hB ▸ (NB8.out.trans (HY16.out.mono hB8)))).mono ?_
  rintro e w22 ⟨a22, c22, rfl, pa, _, _, hb⟩
  have HY17 : Hid (Below X7.heap.size X7 w22) := HY16.out.trans (hb.mono HY16.out.size)
  have RB_17 := TW.hide (RB_16.out.below hb)
  clear HY16 RB_16
  have RW_17 := TW.hide (pa.row)
  clear pa hb nq REN
  go_wp2
  refine HK.out _ _ ?_
  clear HK KK
  refine wp_seq_k fun KK hK => ?_
  have HK := TW.hide hK
  clear hK
  have c6 : w22.cell? ⟨B, 6, none⟩ = some (.int .u32 p.xof) := blk_cell (i := 6) (blk_keepM NP.out HY17.out) rfl
  go_wp2_with fail
  refine (DE2.out _ _ _ (WF.out.below HY17.out)).mono ?_
  rintro e w23 ⟨a23, c23, b23, d23, rfl, pa, pb, hb⟩
  have HY18 : Hid (Below X7.heap.size X7 w23) := HY17.out.trans (hb.mono HY17.out.size)
  have RB_18 := TW.hide (RB_17.out.below hb)
  have RW_18 := TW.hide (RW_17.out.below hb)
  clear HY17 RB_17 RW_17
  have X1_18 := TW.hide (pa)
  have X2_18 := TW.hide (pb)
  clear pa pb hb c6 DE2
  have nx := setRow_heap _ _ _ (pcP P2 (.slice a23 n2 c23) (.slice b23 m2 d23)) _ _ (heap_new w23 (.cells #[.int .i64 0, .int .i64 0, .int .i64 0, .int .i64 0, .int .u32 0, .int .u64 0, .int .u32 0, .int .i64 0, .int .i64 0, .slice none 0 0, .slice none 0 0] 26))
  have bx := below_setRow (cs := (pcP P2 (.slice a23 n2 c23) (.slice b23 m2 d23))) ((Below.refl w23.heap.size w23).alloc (Nat.le_refl _) (.cells #[.int .i64 0, .int .i64 0, .int .i64 0, .int .i64 0, .int .u32 0, .int .u64 0, .int .u32 0, .int .i64 0, .int .i64 0, .slice none 0 0, .slice none 0 0] 26)) (g := w23.heap.size) (Nat.le_refl _)
  have HY19 : Hid (Below X7.heap.size X7 ((w23.alloc (.cells #[.int .i64 0, .int .i64 0, .int .i64 0, .int .i64 0, .int .u32 0, .int .u64 0, .int .u32 0, .int .i64 0, .int .i64 0, .slice none 0 0, .slice none 0 0] 26)).setRow w23.heap.size (pcP P2 (.slice a23 n2 c23) (.slice b23 m2 d23)))) := HY18.out.trans (bx.mono HY18.out.size)
  have RB_19 := TW.hide (RB_18.out.below bx)
  have RW_19 := TW.hide (RW_18.out.below bx)
  have X1_19 := TW.hide (X1_18.out.below bx)
  have X2_19 := TW.hide (X2_18.out.below bx)
  clear HY18 RB_18 RW_18 X1_18 X2_18
  have B23_19 := TW.hide (nx)
  clear nx bx
  go_wp2_with (first | (refine wpList_store_row (by rfl) 26 _ _ (by rfl) (w23.heap.size) (pcP P2 (.slice a23 n2 c23) (.slice b23 m2 d23)) (by rfl) (by rfl) 26 _ (heap_new w23 _) (info31 _ _ _) (pc_size Pm.zero _ _ _ _ _) (pc_one _ _ _ _ _ _ _) ?_))
  generalize ((w23.alloc (.cells #[.int .i64 0, .int .i64 0, .int .i64 0, .int .i64 0, .int .u32 0, .int .u64 0, .int .u32 0, .int .i64 0, .int .i64 0, .slice none 0 0, .slice none 0 0] 26)).setRow w23.heap.size (pcP P2 (.slice a23 n2 c23) (.slice b23 m2 d23))) = X23 at *
  generalize w23.heap.size = g23 at *
  refine HK.out _ _ ?_
  clear HK KK
  refine wp_seq_k fun KK hK => ?_
  have HK := TW.hide hK
  clear hK
  have c6 : X23.cell? ⟨B, 6, none⟩ = some (.int .u32 p.xof) := blk_cell (i := 6) (blk_keepM NP.out HY19.out) rfl
  go_wp2_with fail
  refine (RDE.out _ (hB ▸ (NB8.out.trans (HY19.out.mono hB8)))).mono ?_
  rintro e w24 ⟨a24, c24, b24, d24, rfl, pa, pb, hb⟩
  have HY20 : Hid (Below X7.heap.size X7 w24) := HY19.out.trans (hb.mono HY19.out.size)
  have RB_20 := TW.hide (RB_19.out.below hb)
  have RW_20 := TW.hide (RW_19.out.below hb)
  have X1_20 := TW.hide (X1_19.out.below hb)
  have X2_20 := TW.hide (X2_19.out.below hb)
  have B23_20 := TW.hide (blk_keepM B23_19.out hb)
  clear HY19 RB_19 RW_19 X1_19 X2_19 B23_19
  have Y1_20 := TW.hide (pa)
  have Y2_20 := TW.hide (pb)
  clear pa pb hb c6 RDE
  have nx := setRow_heap _ _ _ (pcP P2 (.slice a24 n2 c24) (.slice b24 m2 d24)) _ _ (heap_new w24 (.cells #[.int .i64 0, .int .i64 0, .int .i64 0, .int .i64 0, .int .u32 0, .int .u64 0, .int .u32 0, .int .i64 0, .int .i64 0, .slice none 0 0, .slice none 0 0] 26))
  have bx := below_setRow (cs := (pcP P2 (.slice a24 n2 c24) (.slice b24 m2 d24))) ((Below.refl w24.heap.size w24).alloc (Nat.le_refl _) (.cells #[.int .i64 0, .int .i64 0, .int .i64 0, .int .i64 0, .int .u32 0, .int .u64 0, .int .u32 0, .int .i64 0, .int .i64 0, .slice none 0 0, .slice none 0 0] 26)) (g := w24.heap.size) (Nat.le_refl _)
  have HY21 : Hid (Below X7.heap.size X7 ((w24.alloc (.cells #[.int .i64 0, .int .i64 0, .int .i64 0, .int .i64 0, .int .u32 0, .int .u64 0, .int .u32 0, .int .i64 0, .int .i64 0, .slice none 0 0, .slice none 0 0] 26)).setRow w24.heap.size (pcP P2 (.slice a24 n2 c24) (.slice b24 m2 d24)))) := HY20.out.trans (bx.mono HY20.out.size)
  have RB_21 := TW.hide (RB_20.out.below bx)
  have RW_21 := TW.hide (RW_20.out.below bx)
  have X1_21 := TW.hide (X1_20.out.below bx)
  have X2_21 := TW.hide (X2_20.out.below bx)
  have B23_21 := TW.hide (blk_keepM B23_20.out bx)
  have Y1_21 := TW.hide (Y1_20.out.below bx)
  have Y2_21 := TW.hide (Y2_20.out.below bx)
  clear HY20 RB_20 RW_20 X1_20 X2_20 B23_20 Y1_20 Y2_20
  have B24_21 := TW.hide (nx)
  clear nx bx
  go_wp2_with (first | (refine wpList_store_row (by rfl) 26 _ _ (by rfl) (w24.heap.size) (pcP P2 (.slice a24 n2 c24) (.slice b24 m2 d24)) (by rfl) (by rfl) 26 _ (heap_new w24 _) (info31 _ _ _) (pc_size Pm.zero _ _ _ _ _) (pc_one _ _ _ _ _ _ _) ?_))
  generalize ((w24.alloc (.cells #[.int .i64 0, .int .i64 0, .int .i64 0, .int .i64 0, .int .u32 0, .int .u64 0, .int .u32 0, .int .i64 0, .int .i64 0, .slice none 0 0, .slice none 0 0] 26)).setRow w24.heap.size (pcP P2 (.slice a24 n2 c24) (.slice b24 m2 d24))) = X24 at *
  generalize w24.heap.size = g24 at *
  refine HK.out _ _ ?_
  clear HK KK
  refine wp_seq_k fun KK hK => ?_
  have HK := TW.hide hK
  clear hK
  go_wp2_with fail
  refine (PU2.out _ _ _ (WF.out.below HY21.out)).mono ?_
  rintro e w25 ⟨x25, rfl, ho, hb⟩
  obtain ⟨a25, c25, hx, hr, _⟩ := RO3.out _ _ _ ho
  subst hx
  have HY22 : Hid (Below X7.heap.size X7 w25) := HY21.out.trans (hb.mono HY21.out.size)
  have RB_22 := TW.hide (RB_21.out.below hb)
  have RW_22 := TW.hide (RW_21.out.below hb)
  have X1_22 := TW.hide (X1_21.out.below hb)
  have X2_22 := TW.hide (X2_21.out.below hb)
  have B23_22 := TW.hide (blk_keepM B23_21.out hb)
  have Y1_22 := TW.hide (Y1_21.out.below hb)
  have Y2_22 := TW.hide (Y2_21.out.below hb)
  have B24_22 := TW.hide (blk_keepM B24_21.out hb)
  clear HY21 RB_21 RW_21 X1_21 X2_21 B23_21 Y1_21 Y2_21 B24_21
  have RU_22 := TW.hide (hr)
  clear ho hr hb PU2
  go_wp2
  refine HK.out _ _ ?_
  clear HK KK
  refine wp_seq_k fun KK hK => ?_
  have HK := TW.hide hK
  clear hK
  go_wp2_with fail
  refine (RPU.out _ (hB ▸ (NB8.out.trans (HY22.out.mono hB8)))).mono ?_
  rintro e w26 ⟨x26, rfl, ho, hb⟩
  obtain ⟨a26, c26, hx, hr, _⟩ := RO3.out _ _ _ ho
  subst hx
  have HY23 : Hid (Below X7.heap.size X7 w26) := HY22.out.trans (hb.mono HY22.out.size)
  have RB_23 := TW.hide (RB_22.out.below hb)
  have RW_23 := TW.hide (RW_22.out.below hb)
  have X1_23 := TW.hide (X1_22.out.below hb)
  have X2_23 := TW.hide (X2_22.out.below hb)
  have B23_23 := TW.hide (blk_keepM B23_22.out hb)
  have Y1_23 := TW.hide (Y1_22.out.below hb)
  have Y2_23 := TW.hide (Y2_22.out.below hb)
  have B24_23 := TW.hide (blk_keepM B24_22.out hb)
  have RU_23 := TW.hide (RU_22.out.below hb)
  clear HY22 RB_22 RW_22 X1_22 X2_22 B23_22 Y1_22 Y2_22 B24_22 RU_22
  have RZ_23 := TW.hide (hr)
  clear ho hr hb RPU
  go_wp2
  refine HK.out _ _ ?_
  clear HK KK
  go_wp2_with fail
  refine (SM1.out _ _ _ _ _ RB_23.out RW_23.out).mono ?_
  rintro e w27 ⟨rfl, q27, hq27⟩
  have hb : Below w26.heap.size w26 w27 := by rw [hq27]; exact below_drewN (Below.refl _ _) q27
  have HY24 : Hid (Below X7.heap.size X7 w27) := HY23.out.trans (hb.mono HY23.out.size)
  have RB_24 := TW.hide (RB_23.out.below hb)
  have RW_24 := TW.hide (RW_23.out.below hb)
  have X1_24 := TW.hide (X1_23.out.below hb)
  have X2_24 := TW.hide (X2_23.out.below hb)
  have B23_24 := TW.hide (blk_keepM B23_23.out hb)
  have Y1_24 := TW.hide (Y1_23.out.below hb)
  have Y2_24 := TW.hide (Y2_23.out.below hb)
  have B24_24 := TW.hide (blk_keepM B24_23.out hb)
  have RU_24 := TW.hide (RU_23.out.below hb)
  have RZ_24 := TW.hide (RZ_23.out.below hb)
  clear HY23 RB_23 RW_23 X1_23 X2_23 B23_23 Y1_23 Y2_23 B24_23 RU_23 RZ_23
  clear hb hq27
  go_wp2_with (first | (refine wpList_val (.agg (pcP P2 (.slice a23 n2 c23) (.slice b23 m2 d23))) (by rfl) (exec_load_row' 26 _ (by rfl) (g23) (by rfl) 26 (pcP P2 (.slice a23 n2 c23) (.slice b23 m2 d23)) (0, 0) _ B23_24.out Try.underlying26 rfl (info31 _ _ _)) ?_; simp only [Act.put, List.setIfInBounds_toArray, List.set_cons_zero, List.set_cons_succ, List.getElem_toArray, List.getElem_cons_zero, List.getElem_cons_succ]) | (refine wpList_val (.agg (pcP P2 (.slice a24 n2 c24) (.slice b24 m2 d24))) (by rfl) (exec_load_row' 26 _ (by rfl) (g24) (by rfl) 26 (pcP P2 (.slice a24 n2 c24) (.slice b24 m2 d24)) (0, 0) _ B24_24.out Try.underlying26 rfl (info31 _ _ _)) ?_; simp only [Act.put, List.setIfInBounds_toArray, List.set_cons_zero, List.set_cons_succ, List.getElem_toArray, List.getElem_cons_zero, List.getElem_cons_succ]))
  refine (AK.out _ _ _ _ _ _ _ _ _ X1_24.out X2_24.out Y1_24.out Y2_24.out).mono ?_
  rintro e w28 ⟨rfl, hb⟩
  have HY25 : Hid (Below X7.heap.size X7 w28) := HY24.out.trans (hb.mono HY24.out.size)
  have RB_25 := TW.hide (RB_24.out.below hb)
  have RW_25 := TW.hide (RW_24.out.below hb)
  have X1_25 := TW.hide (X1_24.out.below hb)
  have X2_25 := TW.hide (X2_24.out.below hb)
  have B23_25 := TW.hide (blk_keepM B23_24.out hb)
  have Y1_25 := TW.hide (Y1_24.out.below hb)
  have Y2_25 := TW.hide (Y2_24.out.below hb)
  have B24_25 := TW.hide (blk_keepM B24_24.out hb)
  have RU_25 := TW.hide (RU_24.out.below hb)
  have RZ_25 := TW.hide (RZ_24.out.below hb)
  clear HY24 RB_24 RW_24 X1_24 X2_24 B23_24 Y1_24 Y2_24 B24_24 RU_24 RZ_24
  clear hb
  go_wp2_with fail
  refine (SM3.out _ _ _ _ _ RU_25.out RZ_25.out).mono ?_
  rintro e w29 ⟨rfl, q29, hq29⟩
  have hb : Below w28.heap.size w28 w29 := by rw [hq29]; exact below_drewN (Below.refl _ _) q29
  have HY26 : Hid (Below X7.heap.size X7 w29) := HY25.out.trans (hb.mono HY25.out.size)
  have RB_26 := TW.hide (RB_25.out.below hb)
  have RW_26 := TW.hide (RW_25.out.below hb)
  have X1_26 := TW.hide (X1_25.out.below hb)
  have X2_26 := TW.hide (X2_25.out.below hb)
  have B23_26 := TW.hide (blk_keepM B23_25.out hb)
  have Y1_26 := TW.hide (Y1_25.out.below hb)
  have Y2_26 := TW.hide (Y2_25.out.below hb)
  have B24_26 := TW.hide (blk_keepM B24_25.out hb)
  have RU_26 := TW.hide (RU_25.out.below hb)
  have RZ_26 := TW.hide (RZ_25.out.below hb)
  clear HY25 RB_25 RW_25 X1_25 X2_25 B23_25 Y1_25 Y2_25 B24_25 RU_25 RZ_25
  clear hb hq29
  have FF : Hid (Below B w w29) := NB8.out.trans (HY26.out.mono hB8)
  go_wp2
  go_ret
  exact ⟨rfl, FF.out⟩
end LW
end Go.Proofs.Ytomdplcmbcjkfaa
