/-
  System, the program's: the pool's system, or its error.
-/
import Derived.Test.YtlmnllgcoikkmaaPv3
import Derived.Test.YtlmnllgcoikkmaaPv4
namespace Go.Proofs.Ytlmnllgcoikkmaa
open Go.RowKit
set_option linter.unusedVariables false
set_option linter.unusedSimpArgs false
namespace LW
open Mc
def s0 : Syst := ⟨[], [], 0, 0, 0⟩
theorem SM_0 (w : World) : SM w s0 none none := ⟨.inl rfl, .inl rfl⟩
/-- What System answers. -/
def SyP (n a q : Int) (w : World) (e : Ending) (w' : World) : Prop := (∃ pa pc ra rc, e = .returned (.tuple #[.agg (syC (if ft n a q = 0 then sysL n a q else s0) pa pc ra rc), .int .i64 (ft n a q)]) ∧ SM w' (if ft n a q = 0 then sysL n a q else s0) pa ra) ∧ Below w.heap.size w w'
set_option maxRecDepth 100000 in
set_option maxHeartbeats 4000000 in
theorem pSystem (n a q : Int) (w : World) : Calls Try.prog 7 #[.int .i64 n, .agg #[.int .i64 a, .int .i64 q]] w (SyP n a q w) := by
  have HF := TW.hide (fun W => pfits n a q W)
  have HP := TW.hide (fun W h => psystemG n a q W h)
  have HI := TW.hide (fun h => (@ft0 n a q h).1)
  generalize hPP : SyP n a q w = PP
  generalize hf : ft n a q = f at HF HI
  generalize hz : vp a q = z at HP HI
  have HPP := TW.hide hPP
  have HFF := TW.hide hf
  clear hz hPP hf
  have z1 : (w.alloc (.cells #[.int .i64 a, .int .i64 q] 23)).heap.size = w.heap.size + 1 := by simp
  have n0 := blk_alloc (o' := .cells #[.slice none 0 0, .slice none 0 0, .int .i64 0, .int .i64 0, .int .i64 0] 32) (heap_alloc_new w (.cells #[.int .i64 a, .int .i64 q] 23))
  have n1 := heap_alloc_new (w.alloc (.cells #[.int .i64 a, .int .i64 q] 23)) (.cells #[.slice none 0 0, .slice none 0 0, .int .i64 0, .int .i64 0, .int .i64 0] 32)
  rw [z1] at n1
  have N0 := TW.hide n0
  have N1 := TW.hide n1
  have HB := TW.hide (((Below.refl w.heap.size w).alloc (Nat.le_refl _) (.cells #[.int .i64 a, .int .i64 q] 23)).alloc (by rw [z1]; omega) (.cells #[.slice none 0 0, .slice none 0 0, .int .i64 0, .int .i64 0, .int .i64 0] 32))
  obtain ⟨c0, c1⟩ := cells2 n0
  clear n0 n1 z1
  go_enter Try.func7, Try.ntmps7
  go_wp2_with fail
  refine (HF.out _).mono ?_
  rintro e1 w1 ⟨rfl, hb1⟩
  have N0 := TW.hide (blk_keep N0.out hb1)
  have N1 := TW.hide (blk_keep N1.out hb1)
  have HB := TW.hide (HB.out.trans (hb1.mono HB.out.size))
  obtain ⟨c0, c1⟩ := cells2 N0.out
  clear hb1
  generalize hg : w.heap.size = g at *
  have HG := TW.hide hg
  clear hg
  by_cases h : f = 0
  · subst h
    have hI := HI.out (by first | rfl | trivial)
    go_wp2_with fail
    refine (HP.out _ hI).mono ?_
    rintro e2 w2 ⟨⟨pa, ra, rfl, hP, hR, hA⟩, hb2⟩
    have HP1 := TW.hide hP
    have HR1 := TW.hide hR
    have HA1 := TW.hide hA
    have hlt : g + 1 < w1.heap.size := blk_lt N1.out
    have N1 := TW.hide (blk_keep N1.out hb2)
    have HB := TW.hide (HB.out.trans (hb2.mono (by omega)))
    clear hb2 hP hR hA c0 c1 N0
    unfold sysL at HP1 HR1
    unfold syC sysL
    generalize hu : bu a q = u at *
    have HUU := TW.hide hu
    clear hu
    go_wp2_with (refine wpList_store_row (by rfl) 32 _ _ (by rfl) (g + 1) #[.slice pa 4 4, .slice ra 3 3, .int .i64 1, .int .i64 0, .int .i64 u] (by rfl) (by rfl) 32 _ N1.out (by kernel_rfl) (by rfl) (by simp [Value.oneCell']) ?_)
    refine bodyPost_ret (v := .tuple #[.agg #[.slice pa 4 4, .slice ra 3 3, .int .i64 1, .int .i64 0, .int .i64 u], .int .i64 0]) (results_row_tmp (P := Try.prog) Try.results7 _ _ (g + 1) 32 _ (0, 0) _ _ (by rfl) (by rfl) (setRow_heap _ _ _ _ _ _ N1.out) Try.underlying32 rfl (by kernel_rfl)) rfl ?_
    rw [← HPP.out]
    have hf := HFF.out
    have hu := HUU.out
    subst hu
    unfold SyP
    rw [hf]
    refine ⟨⟨pa, 4, ra, 3, rfl, HP1.out.pr hlt, HR1.out.row HA1.out hlt⟩, ?_⟩
    rw [HG.out]; exact below_setRow HB.out (by omega)
  · go_wp2_with (refine wpList_store_row (by rfl) 32 _ _ (by rfl) (g + 1) #[.slice none 0 0, .slice none 0 0, .int .i64 0, .int .i64 0, .int .i64 0] (by rfl) (by rfl) 32 _ N1.out (by kernel_rfl) (by rfl) (by simp [Value.oneCell']) ?_)
    refine bodyPost_ret (v := .tuple #[.agg #[.slice none 0 0, .slice none 0 0, .int .i64 0, .int .i64 0, .int .i64 0], .int .i64 f]) (results_row_tmp (P := Try.prog) Try.results7 _ _ (g + 1) 32 _ (0, 0) _ _ (by rfl) (by rfl) (setRow_heap _ _ _ _ _ _ N1.out) Try.underlying32 rfl (by kernel_rfl)) rfl ?_
    rw [← HPP.out]
    have hf := HFF.out
    unfold SyP
    rw [hf, if_neg h]
    refine ⟨⟨none, 0, none, 0, rfl, SM_0 _⟩, ?_⟩
    rw [HG.out]; exact below_setRow HB.out (by omega)
def frR (n a q u : Int) (g c : Nat) (y1 y2 y3 y4 y5 y6 : Value) (l : Array Bool) (V : Nat → Value) : Act := ⟨#[.int .i64 n, .agg #[.int .i64 a, .int .i64 q], undef, .pointer (some ⟨g, 0, none⟩), .pointer (some ⟨g + 1, 0, none⟩), .int .i64 0, .int .i64 u, .int .i64 0, (.slice (some ⟨c, 0, none⟩) 3 3), .tuple #[.int .i64 u, .int .i64 0], .agg #[.int .i64 a, .int .i64 q], .tuple #[.int .i64 u, .int .i64 0], .int .i64 u, .int .i64 0, .int .i64 0, .bool false, undef, undef, .int .i64 n, y1, y1, .int .i64 n, y2, y3, undef, y4, y5, y6, (.slice (some ⟨c, 0, none⟩) 3 3), .pointer (some ⟨g, 0, none⟩), .int .i64 a, RG.slo l V undef 2, RG.slo l V undef 3, .int .i64 u, .int .i64 n, RG.slo l V undef 6, (.slice (some ⟨c, 0, none⟩) 3 3), RG.slo l V undef 8, .pointer (some ⟨g, 1, none⟩), .int .i64 q, .pointer (some ⟨g, 1, none⟩), .int .i64 q, .int .i64 u, RG.slo l V undef 14, .int .i64 u, undef], []⟩
set_option maxRecDepth 100000 in
set_option maxHeartbeats 4000000 in
theorem rSystem (n a q : Int) (w : World) : Calls Try.prog 8 #[.int .i64 n, .agg #[.int .i64 a, .int .i64 q]] w (SyP n a q w) := by
  have HF := TW.hide (fun W => rBuffers a q W)
  have HX := TW.hide rinst
  have HC := TW.hide (fun W => rcombiner a W)
  have HW := TW.hide (fun W => rworker W)
  have HE := TW.hide (fun W => rfeeder (bu a q) n W)
  generalize hPP : SyP n a q w = PP
  have hf : ft n a q = if vp a q = 0 then (if decide (n < 0) || decide (1024 < n) then 1 else 0) else vp a q := by
    unfold ft ou
    by_cases h : vp a q = 0
    · simp [h]
    · simp [h, vp150 h]
  generalize hz : vp a q = z at HF hf
  generalize hu : bu a q = u at HF HE
  have HPP := TW.hide hPP
  have HFF := TW.hide hf
  have HUU := TW.hide hu
  clear hz hPP hf hu
  have z1 : (w.alloc (.cells #[.int .i64 a, .int .i64 q] 23)).heap.size = w.heap.size + 1 := by simp
  have n0 := blk_alloc (o' := .cells #[.slice none 0 0, .slice none 0 0, .int .i64 0, .int .i64 0, .int .i64 0] 32) (heap_alloc_new w (.cells #[.int .i64 a, .int .i64 q] 23))
  have n1 := heap_alloc_new (w.alloc (.cells #[.int .i64 a, .int .i64 q] 23)) (.cells #[.slice none 0 0, .slice none 0 0, .int .i64 0, .int .i64 0, .int .i64 0] 32)
  rw [z1] at n1
  have N0 := TW.hide n0
  have N1 := TW.hide n1
  have HB := TW.hide (((Below.refl w.heap.size w).alloc (Nat.le_refl _) (.cells #[.int .i64 a, .int .i64 q] 23)).alloc (by rw [z1]; omega) (.cells #[.slice none 0 0, .slice none 0 0, .int .i64 0, .int .i64 0, .int .i64 0] 32))
  obtain ⟨c0, c1⟩ := cells2 n0
  clear n0 n1 z1
  go_enter Try.func8, Try.ntmps8
  go_wp2_with fail
  refine (HF.out _).mono ?_
  rintro e1 w1 ⟨rfl, hb1⟩
  have N0 := TW.hide (blk_keep N0.out hb1)
  have N1 := TW.hide (blk_keep N1.out hb1)
  have HB := TW.hide (HB.out.trans (hb1.mono HB.out.size))
  obtain ⟨c0, c1⟩ := cells2 N0.out
  clear hb1
  generalize hg : w.heap.size = g at *
  have HG := TW.hide hg
  clear hg
  by_cases h : z = 0
  · subst h
    rw [if_pos rfl]
    by_cases h1 : n < 0
    · skip
      go_wp2_with (refine wpList_store_row (by rfl) 32 _ _ (by rfl) (g + 1) #[.slice none 0 0, .slice none 0 0, .int .i64 0, .int .i64 0, .int .i64 0] (by rfl) (by rfl) 32 _ N1.out (by kernel_rfl) (by rfl) (by simp [Value.oneCell']) ?_)
      refine bodyPost_ret (v := .tuple #[.agg #[.slice none 0 0, .slice none 0 0, .int .i64 0, .int .i64 0, .int .i64 0], .int .i64 1]) (results_row_tmp (P := Try.prog) Try.results8 _ _ (g + 1) 32 _ (0, 0) _ _ (by rfl) (by rfl) (setRow_heap _ _ _ _ _ _ N1.out) Try.underlying32 rfl (by kernel_rfl)) rfl ?_
      rw [← HPP.out]
      have hf : ft n a q = 1 := by have := HFF.out; simpa [h1] using this
      unfold SyP
      rw [hf, if_neg (by decide)]
      refine ⟨⟨none, 0, none, 0, rfl, SM_0 _⟩, ?_⟩
      rw [HG.out]; exact below_setRow HB.out (by omega)
    · by_cases h2 : 1024 < n
      · skip
        go_wp2_with (refine wpList_store_row (by rfl) 32 _ _ (by rfl) (g + 1) #[.slice none 0 0, .slice none 0 0, .int .i64 0, .int .i64 0, .int .i64 0] (by rfl) (by rfl) 32 _ N1.out (by kernel_rfl) (by rfl) (by simp [Value.oneCell']) ?_)
        refine bodyPost_ret (v := .tuple #[.agg #[.slice none 0 0, .slice none 0 0, .int .i64 0, .int .i64 0, .int .i64 0], .int .i64 1]) (results_row_tmp (P := Try.prog) Try.results8 _ _ (g + 1) 32 _ (0, 0) _ _ (by rfl) (by rfl) (setRow_heap _ _ _ _ _ _ N1.out) Try.underlying32 rfl (by kernel_rfl)) rfl ?_
        rw [← HPP.out]
        have hf : ft n a q = 1 := by have := HFF.out; simpa [h1, h2] using this
        unfold SyP
        rw [hf, if_neg (by decide)]
        refine ⟨⟨none, 0, none, 0, rfl, SM_0 _⟩, ?_⟩
        rw [HG.out]; exact below_setRow HB.out (by omega)
      · skip
        go_wp2_with fail
        refine (HX.out (11) (0) (0) (0) _).mono ?_
        rintro e2 w2 ⟨rfl, hb2⟩
        have hlt : g + 1 < w1.heap.size := blk_lt N1.out
        have N0 := TW.hide (blk_keep N0.out hb2)
        have N1 := TW.hide (blk_keep N1.out hb2)
        have HB := TW.hide (HB.out.trans (hb2.mono (by omega)))
        clear hb2 hlt
        go_wp2_with fail
        refine (HX.out (7) (1) (0) (0) _).mono ?_
        rintro e3 w3 ⟨rfl, hb2⟩
        have hlt : g + 1 < w2.heap.size := blk_lt N1.out
        have N0 := TW.hide (blk_keep N0.out hb2)
        have N1 := TW.hide (blk_keep N1.out hb2)
        have HB := TW.hide (HB.out.trans (hb2.mono (by omega)))
        clear hb2 hlt
        go_wp2_with fail
        refine (HX.out (16) (0) (0) (0) _).mono ?_
        rintro e4 w4 ⟨rfl, hb2⟩
        have hlt : g + 1 < w3.heap.size := blk_lt N1.out
        have N0 := TW.hide (blk_keep N0.out hb2)
        have N1 := TW.hide (blk_keep N1.out hb2)
        have HB := TW.hide (HB.out.trans (hb2.mono (by omega)))
        clear hb2 hlt
        go_wp2_with fail
        have hgw : g + 2 ≤ w4.heap.size := blk_lt N1.out
        have IC := TW.hide (IR_block (l := clL) (heap_alloc_new w4 (.cells #[.int .i64 11, .int .i64 0, .int .i64 0, .int .i64 0, .int .i64 7, .int .i64 1, .int .i64 0, .int .i64 0, .int .i64 16, .int .i64 0, .int .i64 0, .int .i64 0] 47)))
        have AC := TW.hide ((Aw.new w4.heap.size).low hgw)
        have N0 := TW.hide (blk_alloc (o' := .cells #[.int .i64 11, .int .i64 0, .int .i64 0, .int .i64 0, .int .i64 7, .int .i64 1, .int .i64 0, .int .i64 0, .int .i64 16, .int .i64 0, .int .i64 0, .int .i64 0] 47) N0.out)
        have N1 := TW.hide (blk_alloc (o' := .cells #[.int .i64 11, .int .i64 0, .int .i64 0, .int .i64 0, .int .i64 7, .int .i64 1, .int .i64 0, .int .i64 0, .int .i64 16, .int .i64 0, .int .i64 0, .int .i64 0] 47) N1.out)
        have HB := TW.hide (HB.out.alloc (by omega) (.cells #[.int .i64 11, .int .i64 0, .int .i64 0, .int .i64 0, .int .i64 7, .int .i64 1, .int .i64 0, .int .i64 0, .int .i64 16, .int .i64 0, .int .i64 0, .int .i64 0] 47))
        clear hgw
        generalize w4.alloc (.cells #[.int .i64 11, .int .i64 0, .int .i64 0, .int .i64 0, .int .i64 7, .int .i64 1, .int .i64 0, .int .i64 0, .int .i64 16, .int .i64 0, .int .i64 0, .int .i64 0] 47) = X at *
        generalize w4.heap.size = c at *
        generalize Value.bool (decide (n < 0)) = y1
        generalize Value.bool (decide (1024 < n)) = y2
        generalize Value.bool (decide (n < 0) || decide (1024 < n)) = y3
        generalize Value.agg #[.int .i64 11, .int .i64 0, .int .i64 0, .int .i64 0] = y4
        generalize Value.agg #[.int .i64 7, .int .i64 1, .int .i64 0, .int .i64 0] = y5
        generalize Value.agg #[.int .i64 16, .int .i64 0, .int .i64 0, .int .i64 0] = y6
        refine wp_region_noPanic ?_
        refine RG.wp_region_L (fun Z => True) (fun Z => Z.heap[g]? = some (.cells #[.int .i64 a, .int .i64 q] 23 (0, 0))) [] (by kernel_rfl) ?_
        refine RG.wpL_any fun Y hY => ?_
        have hH : Y.heap = X.heap := by rw [hY]; rfl
        have HT : Hid (Y.heap[g]? = some (.cells #[.int .i64 a, .int .i64 q] 23 (0, 0))) := by rw [hH]; exact N0.out
        have M1 : Hid (Y.heap[g + 1]? = some (.cells #[.slice none 0 0, .slice none 0 0, .int .i64 0, .int .i64 0, .int .i64 0] 32 (0, 0))) := by rw [hH]; exact N1.out
        have BY : Hid (Below g w Y) := by rw [hY]; exact below_drewN HB.out 1
        have IC : Hid (IR Y (some ⟨c, 0, none⟩) clL) := by rw [hY]; exact IC.out
        clear hY hH
        refine RG.wpL_take (fuel := 8) (a' := ?Aa) [0, 1, 4, 5, 7, 9, 10, 11, 12, 13, 15] (by kernel_rfl) (by kernel_rfl) (fun _ _ _ _ _ h => h) HT.out (fun _ => trivial) ?ra ?_
        case ra =>
          refine RG.RunsIf.weak (v := ?_) (by rfl) (by rfl) (fun Z hT => ?_) ?_
          rotate_left
          · go_simp
            rfl
          simp only [Act.put, List.setIfInBounds_toArray, List.set_cons_zero, List.set_cons_succ, List.getElem_toArray, List.getElem_cons_zero, List.getElem_cons_succ]
          refine RG.RunsIf.weak (v := .int .i64 a) (by rfl) (by rfl) (fun Z hT => ?_) ?_
          · obtain ⟨c0, c1⟩ := cells2 hT
            go_simp
          simp only [Act.put, List.setIfInBounds_toArray, List.set_cons_zero, List.set_cons_succ, List.getElem_toArray, List.getElem_cons_zero, List.getElem_cons_succ]
          refine RG.RunsIf.weak (v := ?_) (by rfl) (by rfl) (fun Z hT => ?_) ?_
          rotate_left
          · go_simp
            rfl
          simp only [Act.put, List.setIfInBounds_toArray, List.set_cons_zero, List.set_cons_succ, List.getElem_toArray, List.getElem_cons_zero, List.getElem_cons_succ]
          refine RG.RunsIf.weak (v := ?_) (by rfl) (by rfl) (fun Z hT => ?_) ?_
          rotate_left
          · go_simp
            rfl
          simp only [Act.put, List.setIfInBounds_toArray, List.set_cons_zero, List.set_cons_succ, List.getElem_toArray, List.getElem_cons_zero, List.getElem_cons_succ]
          refine RG.RunsIf.weak (v := ?_) (by rfl) (by rfl) (fun Z hT => ?_) ?_
          rotate_left
          · go_simp
            rfl
          simp only [Act.put, List.setIfInBounds_toArray, List.set_cons_zero, List.set_cons_succ, List.getElem_toArray, List.getElem_cons_zero, List.getElem_cons_succ]
          refine RG.RunsIf.weak (v := ?_) (by rfl) (by rfl) (fun Z hT => ?_) ?_
          rotate_left
          · go_simp
            rfl
          simp only [Act.put, List.setIfInBounds_toArray, List.set_cons_zero, List.set_cons_succ, List.getElem_toArray, List.getElem_cons_zero, List.getElem_cons_succ]
          refine RG.RunsIf.weak (v := .int .i64 q) (by rfl) (by rfl) (fun Z hT => ?_) ?_
          · obtain ⟨c0, c1⟩ := cells2 hT
            go_simp
          simp only [Act.put, List.setIfInBounds_toArray, List.set_cons_zero, List.set_cons_succ, List.getElem_toArray, List.getElem_cons_zero, List.getElem_cons_succ]
          refine RG.RunsIf.weak (v := ?_) (by rfl) (by rfl) (fun Z hT => ?_) ?_
          rotate_left
          · go_simp
            rfl
          simp only [Act.put, List.setIfInBounds_toArray, List.set_cons_zero, List.set_cons_succ, List.getElem_toArray, List.getElem_cons_zero, List.getElem_cons_succ]
          refine RG.RunsIf.weak (v := .int .i64 q) (by rfl) (by rfl) (fun Z hT => ?_) ?_
          · obtain ⟨c0, c1⟩ := cells2 hT
            go_simp
          simp only [Act.put, List.setIfInBounds_toArray, List.set_cons_zero, List.set_cons_succ, List.getElem_toArray, List.getElem_cons_zero, List.getElem_cons_succ]
          refine RG.RunsIf.weak (v := ?_) (by rfl) (by rfl) (fun Z hT => ?_) ?_
          rotate_left
          · go_simp
            rfl
          simp only [Act.put, List.setIfInBounds_toArray, List.set_cons_zero, List.set_cons_succ, List.getElem_toArray, List.getElem_cons_zero, List.getElem_cons_succ]
          refine RG.RunsIf.weak (v := ?_) (by rfl) (by rfl) (fun Z hT => ?_) ?_
          rotate_left
          · go_simp
            rfl
          simp only [Act.put, List.setIfInBounds_toArray, List.set_cons_zero, List.set_cons_succ, List.getElem_toArray, List.getElem_cons_zero, List.getElem_cons_succ]
          exact RG.RunsIf.nil
        have hs1 : ((prefs [2, 3, 6, 8] (RG.take [0, 1, 4, 5, 7, 9, 10, 11, 12, 13, 15] (Array.replicate 19 false)) ++ prefs [2, 3, 6, 8] ((RG.take [0, 1, 4, 5, 7, 9, 10, 11, 12, 13, 15] (Array.replicate 19 false)).setIfInBounds 14 true)).all fun l => l.size == 19) = true := by kernel_rfl
        refine RG.wpL_makers [2, 3, 6, 8, 14] (prefs [2, 3, 6, 8] (RG.take [0, 1, 4, 5, 7, 9, 10, 11, 12, 13, 15] (Array.replicate 19 false)) ++ prefs [2, 3, 6, 8] ((RG.take [0, 1, 4, 5, 7, 9, 10, 11, 12, 13, 15] (Array.replicate 19 false)).setIfInBounds 14 true)) (RG.take [0, 1, 4, 5, 7, 9, 10, 11, 12, 13, 15, 2, 3, 6, 8, 14] (Array.replicate 19 false)) (frR n a q u g c y1 y2 y3 y4 y5 y6) (PrS (g + 2) n a q u) Y 3 (by kernel_rfl) (fun Z hZ => blk_keep HT.out hZ) (fun Z hZ => trivial) (fun i v w w' h hb => h.below hb) ?_ ?_ (n := 5) (V0 := fun _ => undef) (by simp [prefs]) (by kernel_rfl) (by decide)
        · intro l hl V W hw hp i hi hr K hK
          have hsz : l.size = 19 := by simpa using List.all_eq_true.1 hs1 l hl
          have hG2 : g + 2 ≤ W.heap.size := Nat.lt_of_lt_of_le (blk_lt M1.out) hw.size
          simp only [List.mem_cons, List.not_mem_nil, or_false] at hi
          rcases hi with rfl | rfl | rfl | rfl | rfl
          · refine RG.wpOp_of (by rfl) (by rfl) ?_
            unfold frR
            go_simp
            refine (HC.out _).mono ?_
            rintro e w' ⟨⟨A, rfl, hI, hA⟩, hb⟩
            have := hK (.slice A 15 15) w' hb ⟨fun _ => ⟨A, rfl, hI, hA.low hG2⟩, fun h => absurd h (by decide), fun h => absurd h (by decide), fun h => absurd h (by decide), fun h => absurd h (by decide), fun h => absurd h (by decide)⟩
            unfold frR at this
            rw [RG.slo_self (by rw [hsz]; decide), RG.slo_ne (by decide : (3 : Nat) ≠ 2), RG.slo_ne (by decide : (6 : Nat) ≠ 2), RG.slo_ne (by decide : (8 : Nat) ≠ 2), RG.slo_ne (by decide : (14 : Nat) ≠ 2)] at this
            exact this
          · refine RG.wpOp_of (by rfl) (by rfl) ?_
            unfold frR
            go_simp
            refine (HW.out _).mono ?_
            rintro e w' ⟨⟨A, rfl, hI, hA⟩, hb⟩
            have := hK (.slice A 8 8) w' hb ⟨fun h => absurd h (by decide), fun _ => ⟨A, rfl, hI, hA.low hG2⟩, fun h => absurd h (by decide), fun h => absurd h (by decide), fun h => absurd h (by decide), fun h => absurd h (by decide)⟩
            unfold frR at this
            rw [RG.slo_self (by rw [hsz]; decide), RG.slo_ne (by decide : (2 : Nat) ≠ 3), RG.slo_ne (by decide : (6 : Nat) ≠ 3), RG.slo_ne (by decide : (8 : Nat) ≠ 3), RG.slo_ne (by decide : (14 : Nat) ≠ 3)] at this
            exact this
          · refine RG.wpOp_of (by rfl) (by rfl) ?_
            unfold frR
            go_simp
            refine (HE.out _).mono ?_
            rintro e w' ⟨⟨A, rfl, hI, hA⟩, hb⟩
            have := hK (.slice A 19 19) w' hb ⟨fun h => absurd h (by decide), fun h => absurd h (by decide), fun _ => ⟨A, rfl, hI, hA.low hG2⟩, fun h => absurd h (by decide), fun h => absurd h (by decide), fun h => absurd h (by decide)⟩
            unfold frR at this
            rw [RG.slo_self (by rw [hsz]; decide), RG.slo_ne (by decide : (2 : Nat) ≠ 6), RG.slo_ne (by decide : (3 : Nat) ≠ 6), RG.slo_ne (by decide : (8 : Nat) ≠ 6), RG.slo_ne (by decide : (14 : Nat) ≠ 6)] at this
            exact this
          · have hh := RG.after_of (i := 8) (by rfl) hr
            have e2 := hh ⟨2, .data⟩ (by simp) (by rfl)
            have e3 := hh ⟨3, .data⟩ (by simp) (by rfl)
            have e6 := hh ⟨6, .data⟩ (by simp) (by rfl)
            clear hh
            obtain ⟨A2, v2, i2, g2⟩ := (hp 2 (by simp) e2).c rfl
            obtain ⟨A3, v3, i3, g3⟩ := (hp 3 (by simp) e3).k rfl
            obtain ⟨A6, v6, i6, g6⟩ := (hp 6 (by simp) e6).f rfl
            have i7 := IC.out.below hw
            refine RG.wpOp_of (by rfl) (by rfl) ?_
            unfold frR
            rw [RG.slo_on e2, RG.slo_on e3, RG.slo_on e6, v2, v3, v6]
            have hbn := (Below.refl W.heap.size W).alloc (Nat.le_refl _) (.cells #[.slice A2 15 15, .slice A3 8 8, .slice A6 19 19, .slice (some ⟨c, 0, none⟩) 3 3] 49)
            have := hK (.slice (some ⟨W.heap.size, 0, none⟩) 4 4) (W.alloc (.cells #[.slice A2 15 15, .slice A3 8 8, .slice A6 19 19, .slice (some ⟨c, 0, none⟩) 3 3] 49)) hbn ⟨fun h => absurd h (by decide), fun h => absurd h (by decide), fun h => absurd h (by decide), fun h => absurd h (by decide), fun _ => ⟨_, rfl, PG_block (l1 := cmL a) (l2 := wkL) (l3 := fdL u n) (l4 := clL) (heap_alloc_new W _) hG2 (i2.below hbn) (i3.below hbn) (i6.below hbn) (i7.below hbn) g2 g3 g6 AC.out⟩, fun h => absurd h (by decide)⟩
            clear hK hbn
            unfold frR at this
            rw [RG.slo_self (by rw [hsz]; decide), RG.slo_ne (by decide : (2 : Nat) ≠ 8), RG.slo_ne (by decide : (3 : Nat) ≠ 8), RG.slo_ne (by decide : (6 : Nat) ≠ 8), RG.slo_ne (by decide : (14 : Nat) ≠ 8), RG.slo_on e2, RG.slo_on e3, RG.slo_on e6, v2, v3, v6] at this
            go_simp
            exact this
          · refine RG.wpOp_of (by rfl) (by rfl) ?_
            unfold frR
            have hbn := (Below.refl W.heap.size W).alloc (Nat.le_refl _) (.cells #[.int .i64 q, .int .i64 q, .int .i64 u] 3)
            have := hK (.slice (some ⟨W.heap.size, 0, none⟩) 3 3) (W.alloc (.cells #[.int .i64 q, .int .i64 q, .int .i64 u] 3)) hbn ⟨fun h => absurd h (by decide), fun h => absurd h (by decide), fun h => absurd h (by decide), fun h => absurd h (by decide), fun h => absurd h (by decide), fun _ => ⟨_, rfl, NR_block (xs := [q, q, u]) (heap_alloc_new W _), (Aw.new _).low hG2⟩⟩
            clear hK hbn
            go_simp
            unfold frR at this
            rw [RG.slo_self (by rw [hsz]; decide), RG.slo_ne (by decide : (2 : Nat) ≠ 14), RG.slo_ne (by decide : (3 : Nat) ≠ 14), RG.slo_ne (by decide : (6 : Nat) ≠ 14), RG.slo_ne (by decide : (8 : Nat) ≠ 14)] at this
            exact this
        · intro V W hw hp
          obtain ⟨pa, v8, i8⟩ := (hp 8 (by simp) (by kernel_rfl)).p rfl
          obtain ⟨ra, v14, i14, g14⟩ := (hp 14 (by simp) (by kernel_rfl)).r rfl
          unfold frR
          rw [RG.slo_on (i := 8) (by kernel_rfl), RG.slo_on (i := 14) (by kernel_rfl), v8, v14]
          generalize RG.slo _ V undef 2 = x2
          generalize RG.slo _ V undef 3 = x3
          generalize RG.slo _ V undef 6 = x6
          have HT2 := TW.hide (blk_keep HT.out hw)
          have M2 := TW.hide (blk_keep M1.out hw)
          have B2 : Hid (Below g w W) := BY.out.trans (hw.mono (Nat.le_of_lt (blk_lt HT.out)))
          have I8 := TW.hide i8
          have I14 := TW.hide i14
          clear i8 i14 hp hw HT M1 BY
          refine RG.wpL_take (fuel := 2) (a' := ?Ab) [16] (by kernel_rfl) (by kernel_rfl) (fun _ _ _ _ _ h => h) HT2.out (fun _ => trivial) ?rb ?_
          case rb =>
            refine RG.RunsIf.weak (v := .agg #[.slice pa 4 4, .slice ra 3 3, .int .i64 1, .int .i64 0, .int .i64 u]) (by rfl) (by rfl) (fun Z hT => ?_) ?_
            · go_simp
            simp only [Act.put, List.setIfInBounds_toArray, List.set_cons_zero, List.set_cons_succ, List.getElem_toArray, List.getElem_cons_zero, List.getElem_cons_succ]
            exact RG.RunsIf.nil
          refine RG.wpL_step (i := 17) (by kernel_rfl) (by rfl) (by rfl) (fun KX hK => ?_)
          have HK := TW.hide hK
          clear hK
          refine wp_store_row 32 _ _ (by rfl) (g + 1) #[.slice pa 4 4, .slice ra 3 3, .int .i64 1, .int .i64 0, .int .i64 u] (by rfl) (by rfl) 32 _ M2.out (by kernel_rfl) (by rfl) (by simp [Value.oneCell']) ?_
          try simp only [Act.put, List.setIfInBounds_toArray, List.set_cons_zero, List.set_cons_succ, List.getElem_toArray, List.getElem_cons_zero, List.getElem_cons_succ]
          have hgl : g + 1 < W.heap.size := blk_lt M2.out
          have B3 : Hid (Below g w (W.setRow (g + 1) #[.slice pa 4 4, .slice ra 3 3, .int .i64 1, .int .i64 0, .int .i64 u])) := below_setRow B2.out (by omega)
          have M3 := TW.hide (setRow_heap _ _ _ #[.slice pa 4 4, .slice ra 3 3, .int .i64 1, .int .i64 0, .int .i64 u] _ _ M2.out)
          have HT3 := TW.hide ((setRow_other W (g + 1) g #[.slice pa 4 4, .slice ra 3 3, .int .i64 1, .int .i64 0, .int .i64 u] (by omega)).trans HT2.out)
          refine HK.out _ _ HT3.out (fun _ => trivial) ?_
          clear HK KX
          have SM8 := TW.hide (I8.out.pr (cs := #[.slice pa 4 4, .slice ra 3 3, .int .i64 1, .int .i64 0, .int .i64 u]) (Nat.lt_succ_self (g + 1)))
          have SM14 := TW.hide (I14.out.row (cs := #[.slice pa 4 4, .slice ra 3 3, .int .i64 1, .int .i64 0, .int .i64 u]) g14 (Nat.lt_succ_self (g + 1)))
          clear I8 I14 g14 M2 B2 HT2
          generalize W.setRow _ _ = XX at *
          refine RG.wpL_take (fuel := 0) (a' := ?Ac) [18] (by kernel_rfl) (by kernel_rfl) (fun _ _ _ _ _ h => h) HT3.out (fun _ => trivial) ?rc ?_
          case rc =>
            refine RG.RunsIf.weak (v := ?_) (by rfl) (by rfl) (fun Z hT => ?_) ?_
            rotate_left
            · go_simp
              rfl
            simp only [Act.put, List.setIfInBounds_toArray, List.set_cons_zero, List.set_cons_succ, List.getElem_toArray, List.getElem_cons_zero, List.getElem_cons_succ]
            exact RG.RunsIf.nil
          refine RG.wpL_done (by kernel_rfl) ?_ _
          refine NoPanic.normal ?_
          go_wp2
          refine bodyPost_ret (v := .tuple #[.agg #[.slice pa 4 4, .slice ra 3 3, .int .i64 1, .int .i64 0, .int .i64 u], .int .i64 0]) (results_row_tmp (P := Try.prog) Try.results8 _ _ (g + 1) 32 _ (0, 0) _ _ (by rfl) (by rfl) M3.out Try.underlying32 rfl (by kernel_rfl)) rfl ?_
          rw [← HPP.out]
          have hf : ft n a q = 0 := by
            have := HFF.out
            have h12 : ¬ (n < 0 ∨ 1024 < n) := by omega
            simpa [h12] using this
          have hu := HUU.out
          subst hu
          unfold SyP
          rw [hf]
          exact ⟨⟨pa, 4, ra, 3, rfl, SM8.out, SM14.out⟩, by rw [HG.out]; exact B3.out⟩
  · skip
    go_wp2_with (refine wpList_store_row (by rfl) 32 _ _ (by rfl) (g + 1) #[.slice none 0 0, .slice none 0 0, .int .i64 0, .int .i64 0, .int .i64 0] (by rfl) (by rfl) 32 _ N1.out (by kernel_rfl) (by rfl) (by simp [Value.oneCell']) ?_)
    refine bodyPost_ret (v := .tuple #[.agg #[.slice none 0 0, .slice none 0 0, .int .i64 0, .int .i64 0, .int .i64 0], .int .i64 z]) (results_row_tmp (P := Try.prog) Try.results8 _ _ (g + 1) 32 _ (0, 0) _ _ (by rfl) (by rfl) (setRow_heap _ _ _ _ _ _ N1.out) Try.underlying32 rfl (by kernel_rfl)) rfl ?_
    rw [← HPP.out]
    have hf : ft n a q = z := by have := HFF.out; simpa [h] using this
    unfold SyP
    rw [hf, if_neg (by exact h)]
    refine ⟨⟨none, 0, none, 0, rfl, SM_0 _⟩, ?_⟩
    rw [HG.out]; exact below_setRow HB.out (by omega)
end LW
end Go.Proofs.Ytlmnllgcoikkmaa
