/-
  System, the program's: the pool's system, or its error.
-/
import Derived.Test.YtghpfhoajcgghaaPv3
import Derived.Test.YtghpfhoajcgghaaPv4
namespace Go.Proofs.Ytghpfhoajcgghaa
open Go.RowKit
set_option linter.unusedVariables false
set_option linter.unusedSimpArgs false
namespace LW
open Mc
def s0 : Syst := ⟨[], [], 0, 0, 0⟩
theorem SM_0 (w : World) : SM w s0 none none := ⟨.inl rfl, .inl rfl⟩
/-- What System answers. -/
def SyP (n a q : Int) (w : World) (e : Ending) (w' : World) : Prop := (∃ pa pc ra rc, e = .returned (.tuple #[.agg (syC (if ft n a q = 0 then sysL n a q else s0) pa pc ra rc), .int .i64 (ft n a q)]) ∧ SM w' (if ft n a q = 0 then sysL n a q else s0) pa ra) ∧ Below w.heap.size w w'
set_option maxRecDepth 100000 in
set_option maxHeartbeats 4000000 in
theorem pSystem (n a q : Int) (w : World) : Calls Try.prog 7 #[.int .i64 n, .agg #[.int .i64 a, .int .i64 q]] w (SyP n a q w) := by
  have HF := TW.hide (fun W => pfits n a q W)
  have HP := TW.hide (fun W h => psystemG n a q W h)
  have HI := TW.hide (fun h => (@ft0 n a q h).1)
  generalize hPP : SyP n a q w = PP
  generalize hf : ft n a q = f at HF HI
  generalize hz : vp a q = z at HP HI
  have HPP := TW.hide hPP
  have HFF := TW.hide hf
  clear hz hPP hf
  have z1 : (w.alloc (.cells #[.int .i64 a, .int .i64 q] 23)).heap.size = w.heap.size + 1 := by simp
  have n0 := blk_alloc (o' := .cells #[.slice none 0 0, .slice none 0 0, .int .i64 0, .int .i64 0, .int .i64 0] 29) (heap_alloc_new w (.cells #[.int .i64 a, .int .i64 q] 23))
  have n1 := heap_alloc_new (w.alloc (.cells #[.int .i64 a, .int .i64 q] 23)) (.cells #[.slice none 0 0, .slice none 0 0, .int .i64 0, .int .i64 0, .int .i64 0] 29)
  rw [z1] at n1
  have N0 := TW.hide n0
  have N1 := TW.hide n1
  have HB := TW.hide (((Below.refl w.heap.size w).alloc (Nat.le_refl _) (.cells #[.int .i64 a, .int .i64 q] 23)).alloc (by rw [z1]; omega) (.cells #[.slice none 0 0, .slice none 0 0, .int .i64 0, .int .i64 0, .int .i64 0] 29))
  obtain ⟨c0, c1⟩ := cells2 n0
  clear n0 n1 z1
  go_enter Try.func7, Try.ntmps7
  go_wp2_with fail
  refine (HF.out _).mono ?_
  rintro e1 w1 ⟨rfl, hb1⟩
  have N0 := TW.hide (blk_keep N0.out hb1)
  have N1 := TW.hide (blk_keep N1.out hb1)
  have HB := TW.hide (HB.out.trans (hb1.mono HB.out.size))
  obtain ⟨c0, c1⟩ := cells2 N0.out
  clear hb1
  generalize hg : w.heap.size = g at *
  have HG := TW.hide hg
  clear hg
  by_cases h : f = 0
  · subst h
    have hI := HI.out (by first | rfl | trivial)
    go_wp2_with fail
    refine (HP.out _ hI).mono ?_
    rintro e2 w2 ⟨⟨pa, ra, rfl, hP, hR, hA⟩, hb2⟩
    have HP1 := TW.hide hP
    have HR1 := TW.hide hR
    have HA1 := TW.hide hA
    have hlt : g + 1 < w1.heap.size := blk_lt N1.out
    have N1 := TW.hide (blk_keep N1.out hb2)
    have HB := TW.hide (HB.out.trans (hb2.mono (by omega)))
    clear hb2 hP hR hA c0 c1 N0
    unfold sysL at HP1 HR1
    unfold syC sysL
    generalize hu : bu a q = u at *
    have HUU := TW.hide hu
    clear hu
    go_wp2_with (refine wpList_store_row (by rfl) 29 _ _ (by rfl) (g + 1) #[.slice pa 4 4, .slice ra 3 3, .int .i64 1, .int .i64 0, .int .i64 u] (by rfl) (by rfl) 29 _ N1.out (by kernel_rfl) (by rfl) (by simp [Value.oneCell']) ?_)
    refine bodyPost_ret (v := .tuple #[.agg #[.slice pa 4 4, .slice ra 3 3, .int .i64 1, .int .i64 0, .int .i64 u], .int .i64 0]) (results_row_tmp (P := Try.prog) Try.results7 _ _ (g + 1) 29 _ (0, 0) _ _ (by rfl) (by rfl) (setRow_heap _ _ _ _ _ _ N1.out) Try.underlying29 rfl (by kernel_rfl)) rfl ?_
    rw [← HPP.out]
    have hf := HFF.out
    have hu := HUU.out
    subst hu
    unfold SyP
    rw [hf]
    refine ⟨⟨pa, 4, ra, 3, rfl, HP1.out.pr hlt, HR1.out.row HA1.out hlt⟩, ?_⟩
    rw [HG.out]; exact below_setRow HB.out (by omega)
  · go_wp2_with (refine wpList_store_row (by rfl) 29 _ _ (by rfl) (g + 1) #[.slice none 0 0, .slice none 0 0, .int .i64 0, .int .i64 0, .int .i64 0] (by rfl) (by rfl) 29 _ N1.out (by kernel_rfl) (by rfl) (by simp [Value.oneCell']) ?_)
    refine bodyPost_ret (v := .tuple #[.agg #[.slice none 0 0, .slice none 0 0, .int .i64 0, .int .i64 0, .int .i64 0], .int .i64 f]) (results_row_tmp (P := Try.prog) Try.results7 _ _ (g + 1) 29 _ (0, 0) _ _ (by rfl) (by rfl) (setRow_heap _ _ _ _ _ _ N1.out) Try.underlying29 rfl (by kernel_rfl)) rfl ?_
    rw [← HPP.out]
    have hf := HFF.out
    unfold SyP
    rw [hf, if_neg h]
    refine ⟨⟨none, 0, none, 0, rfl, SM_0 _⟩, ?_⟩
    rw [HG.out]; exact below_setRow HB.out (by omega)
def frR (n a q u : Int) (g c : Nat) (y1 y2 y3 y4 y5 y6 : Value) (l : Array Bool) (V : Nat → Value) : Act := ⟨#[.int .i64 n, .agg #[.int .i64 a, .int .i64 q], undef, .pointer (some ⟨g, 0, none⟩), .pointer (some ⟨g + 1, 0, none⟩), .int .i64 0, .int .i64 u, .int .i64 0, (.slice (some ⟨c, 0, none⟩) 3 3), .tuple #[.int .i64 u, .int .i64 0], .agg #[.int .i64 a, .int .i64 q], .tuple #[.int .i64 u, .int .i64 0], .int .i64 u, .int .i64 0, .int .i64 0, .bool false, undef, undef, .int .i64 n, y1, y1, .int .i64 n, y2, y3, undef, y4, y5, y6, (.slice (some ⟨c, 0, none⟩) 3 3), .pointer (some ⟨g, 0, none⟩), .int .i64 a, RG.slo l V undef 2, RG.slo l V undef 3, .int .i64 u, .int .i64 n, RG.slo l V undef 6, (.slice (some ⟨c, 0, none⟩) 3 3), RG.slo l V undef 8, .pointer (some ⟨g, 1, none⟩), .int .i64 q, .pointer (some ⟨g, 1, none⟩), .int .i64 q, .int .i64 u, RG.slo l V undef 14, .int .i64 u, undef], []⟩
end LW
end Go.Proofs.Ytghpfhoajcgghaa
