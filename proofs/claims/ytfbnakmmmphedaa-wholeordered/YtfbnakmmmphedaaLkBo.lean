/-
  Lk5, Lk6, Lk7, Tr4, Lk8, Lk9 in one.
-/
import Derived.Test.YtfbnakmmmphedaaLkAo
import Derived.Test.YtfbnakmmmphedaaTv7o
set_option linter.unusedVariables false
set_option linter.unusedSimpArgs false
set_option maxRecDepth 100000
set_option maxHeartbeats 4000000
namespace Go.Proofs.Ytfbnakmmmphedaa
open Go.RowKit
namespace LW
open Mc
theorem precvS {o : World} {g R M K rc : Nat} {ra : Option Addr} {t : Lt} {v : Ow → Value} (n c : Nat) (who op va : Int) (w : World) (h : KM o w g ra rc R M K t v) (hc : c < M) (hl : t.ed.length ≤ 4000000000) :
  Calls Try.prog 59 #[.pointer (some ⟨g,0,none⟩),.int .i64 (n : Int),.agg #[.int .i64 who,.int .i64 op,.int .i64 (c : Int),.int .i64 va,.bool true]] w fun e w' => e = .returned (.tuple #[]) ∧ ∃ v',KM o w' g ra rc R M K { t with ed:=t.ed ++ Tr.lnk (t.sh c) n } v' ∧ ∀ i,i ≠ .ed → v' i = v i:=by
 have hA0 : Below w.heap.size w (w.alloc (.cells #[.int .i64 who,.int .i64 op,.int .i64 (c : Int),.int .i64 va,.bool true] 39)):=(Below.refl w.heap.size w).alloc (Nat.le_refl _) _
 have HG:=ζ (blk_keep h.blk hA0)
 obtain ⟨b5,cap5,e5,y5,_⟩:=h.shAt c hc
 have y5:=keepC hA0 y5
 have E5:=ζ e5
 have HLk : Hid (∀ W,Below (w.alloc (.cells #[.int .i64 who,.int .i64 op,.int .i64 (c : Int),.int .i64 va,.bool true] 39)).heap.size (w.alloc (.cells #[.int .i64 who,.int .i64 op,.int .i64 (c : Int),.int .i64 va,.bool true] 39)) W → Calls Try.prog 49 #[.pointer (some ⟨g,0,none⟩),.int .i64 (t.sh c),.int .i64 (n : Int)] W fun e w' => e = .returned (.tuple #[]) ∧ ∃ v',KM o w' g ra rc R M K { t with ed:=t.ed ++ Tr.lnk (t.sh c) n } v' ∧ ∀ i,i ≠ .ed → v' i = v i):=fun W hW => (plink (t.sh c) n W ((h.below hA0).below hW) hl).mono fun e w' h => ⟨h.1,h.2.1⟩
 have hc0 : (0 : Int) ≤ (c : Int):=by omega
 have hc1 : (c : Int) < (M : Int):=by omega
 obtain ⟨xs,hxs⟩ : ∃ xs,t.sh c = xs:=⟨_,rfl⟩
 rw [hxs] at y5 HLk ⊢
 clear hxs e5 hA0 h hl
 have hA : Below w.heap.size w (w.alloc (.cells #[.int .i64 who,.int .i64 op,.int .i64 (c : Int),.int .i64 va,.bool true] 39)):=(Below.refl _ _).alloc (Nat.le_refl _) _
 have N1 : Hid ((w.alloc (.cells #[.int .i64 who,.int .i64 op,.int .i64 (c : Int),.int .i64 va,.bool true] 39)).heap[w.heap.size]? = some (.cells #[.int .i64 who,.int .i64 op,.int .i64 (c : Int),.int .i64 va,.bool true] 39 (0,0))):=heap_alloc_new w _
 have NB:=ζ hA
 clear hA
 go_enter Try.func59,Try.ntmps59
 refine wp_seq_k fun K hK => ?_
 have HK:=ζ hK
 clear hK
 go_wp2
 refine HK.out _ _ ?_
 clear HK K
 generalize w.alloc _ = X at *
 obtain ⟨z0,z1,z2,z3,z4⟩:=cellsY5 N1.out
 go_wp2
 refine wp_region_noPanic ?_
 refine RG.wp_region_L (fun Z => Below X.heap.size X Z) (fun Z => True) [10] (by kernel_rfl) ?_
 refine RG.wpL_any fun Yz84 hY => ?_
 have HBz84 : Hid (Below X.heap.size X Yz84):=by rw [hY];exact below_drewN (Below.refl _ _) 1
 clear hY
 refine RG.wpL_takeS (fuel:=1) (a':=?Az84) [0,1,2,3,4,5,6,7,8,9] (by kernel_rfl) (by kernel_rfl) (fun _ _ _ _ _ h => h) trivial (HBz84.out) ?rz84 ?_
 case rz84 =>
  iterate 4
   refine RG.rS ?_ (fun Z hT hS => ?_) ?_
   rotate_left
   ·go_simp
    rfl
   simp only [Act.put,lA,lB,lC,lD,lE,lF]
  refine RG.rS (.slice (some ⟨b5,0,none⟩) M cap5) (fun Z hT hS => ?_) ?_
  ·obtain ⟨x0,x1,x2,x3,x4,x5,x6⟩:=cellsY7 (blk_keep HG.out hS);obtain ⟨z0,z1,z2,z3,z4⟩:=cellsY5 (blk_keep N1.out hS);rw [E5.out] at x5;have y5:=keepC hS y5
   go_simp
  simp only [Act.put,lA,lB,lC,lD,lE,lF]
  refine RG.rS ?_ (fun Z hT hS => ?_) ?_
  rotate_left
  ·go_simp
   rfl
  simp only [Act.put,lA,lB,lC,lD,lE,lF]
  refine RG.rS (.int .i64 (c : Int)) (fun Z hT hS => ?_) ?_
  ·obtain ⟨x0,x1,x2,x3,x4,x5,x6⟩:=cellsY7 (blk_keep HG.out hS);obtain ⟨z0,z1,z2,z3,z4⟩:=cellsY5 (blk_keep N1.out hS);rw [E5.out] at x5;have y5:=keepC hS y5
   go_simp
  simp only [Act.put,lA,lB,lC,lD,lE,lF]
  refine RG.rS ?_ (fun Z hT hS => ?_) ?_
  rotate_left
  ·go_simp
   rfl
  simp only [Act.put,lA,lB,lC,lD,lE,lF]
  refine RG.rS (.int .i64 xs) (fun Z hT hS => ?_) ?_
  ·obtain ⟨x0,x1,x2,x3,x4,x5,x6⟩:=cellsY7 (blk_keep HG.out hS);obtain ⟨z0,z1,z2,z3,z4⟩:=cellsY5 (blk_keep N1.out hS);rw [E5.out] at x5;have y5:=keepC hS y5
   go_simp
  simp only [Act.put,lA,lB,lC,lD,lE,lF]
  refine RG.rS ?_ (fun Z hT hS => ?_) ?_
  rotate_left
  ·go_simp
   rfl
  simp only [Act.put,lA,lB,lC,lD,lE,lF]
  exact RG.RunsS.nil
 refine RG.wpL_late (i:=10) (by kernel_rfl) (by rfl) (by rfl) (by kernel_rfl) (fun KX hK => ?_)
 have HK:=ζ hK
 clear hK
 go_simp
 refine (HLk.out Yz84 HBz84.out).mono ?_
 rintro e_z84 W1 ⟨rfl,v3,hm3,hv3⟩
 have HM3:=ζ hm3
 have HV3:=ζ hv3
 clear hm3 hv3
 refine HK.out _ _ trivial ?_
 clear HK KX
 try simp only [Act.put,lA,lB,lC,lD,lE,lF]
 refine RG.wpL_done (by kernel_rfl) ?_ _
 refine NoPanic.normal ?_
 go_wp2
 refine bodyPost_ret (results_none rfl _ _ _) rfl ?_
 exact ⟨rfl,v3,HM3.out,HV3.out⟩
theorem precvV {o : World} {g R M K rc : Nat} {ra : Option Addr} {t : Lt} {v : Ow → Value} (n c : Nat) (who op va : Int) (w : World) (h : KM o w g ra rc R M K t v) (hc : c < M) (hl : t.ed.length ≤ 3999999999) (hs : (t.sn c).length ≤ 40000) (hlt : (t.tk c).length < (t.sn c).length) (x : Int) (hx : (t.sn c).getD (t.tk c).length 0 = x) :
  Calls Try.prog 59 #[.pointer (some ⟨g,0,none⟩),.int .i64 (n : Int),.agg #[.int .i64 who,.int .i64 op,.int .i64 (c : Int),.int .i64 va,.bool false]] w fun e w' => e = .returned (.tuple #[]) ∧ ∃ v',KM o w' g ra rc R M K { t with ed:=t.ed ++ Tr.lnk x n,tk:=put t.tk c (t.tk c ++ [(n : Int)]) } v':=by
 have hA0 : Below w.heap.size w (w.alloc (.cells #[.int .i64 who,.int .i64 op,.int .i64 (c : Int),.int .i64 va,.bool false] 39)):=(Below.refl w.heap.size w).alloc (Nat.le_refl _) _
 have HG:=ζ (blk_keep h.blk hA0)
 obtain ⟨b3,cap3,e3,y3,_⟩:=h.osAt c hc
 obtain ⟨b4,cap4,e4,y4,_⟩:=h.otAt c hc
 obtain ⟨sa,sc,es,hns⟩:=h.snIs c
 obtain ⟨ta,tc,et,_⟩:=h.tkIs c
 obtain ⟨sb,so,hsa,yx⟩ : ∃ sb so,sa = some ⟨sb,so,none⟩ ∧ w.cell? ⟨sb,so + (t.tk c).length,none⟩ = some (.int .i64 x):=by
  rcases hns with h2 | ⟨b,off,e,hc2⟩
  ·rw [h2] at hlt;simp at hlt
  ·exact ⟨b,off,e,by rw [← hx];exact hc2 _ hlt⟩
 subst hsa
 rw [es] at y3
 rw [et] at y4
 have y3:=keepC hA0 y3
 have y4:=keepC hA0 y4
 have yx:=keepC hA0 yx
 have E3:=ζ e3
 have E4:=ζ e4
 have hc0 : (0 : Int) ≤ (c : Int):=by omega
 have hc1 : (c : Int) < (M : Int):=by omega
 have HLk : Hid (∀ W,Below (w.alloc (.cells #[.int .i64 who,.int .i64 op,.int .i64 (c : Int),.int .i64 va,.bool false] 39)).heap.size (w.alloc (.cells #[.int .i64 who,.int .i64 op,.int .i64 (c : Int),.int .i64 va,.bool false] 39)) W → Calls Try.prog 49 #[.pointer (some ⟨g,0,none⟩),.int .i64 x,.int .i64 (n : Int)] W fun e w' => e = .returned (.tuple #[]) ∧ (∃ v',KM o w' g ra rc R M K { t with ed:=t.ed ++ Tr.lnk x n } v' ∧ ∀ i,i ≠ .ed → v' i = v i) ∧ (∀ (p : Nat) (cs : Array Value) (ty : TypeId) (fr : Nat × Nat),W.heap[p]? = some (.cells cs ty fr) → ty ≠ 109 → ty ≠ 116 → w'.heap[p]? = some (.cells cs ty fr))):=fun W hW => plink x n W ((h.below hA0).below hW) (by omega)
 have HEn : Hid (∀ W v3,KM o W g ra rc R M K { t with ed:=t.ed ++ Tr.lnk x n } v3 → (∀ i,i ≠ .ed → v3 i = v i) → ∀ Z u W5,Below W.heap.size W Z → (Z.heap[g]? = some (.cells (lkC ra M rc v3) 116 (0,0)) ∧ Z.heap[w.heap.size]? = some (.cells #[.int .i64 who,.int .i64 op,.int .i64 (c : Int),.int .i64 va,.bool false] 39 (0,0))) → W5.ownsRow o.heap.size 3 1 u ((t.tk c).length + 1) ((t.tk c).map (Value.int .i64) ++ [.int .i64 (n : Int)]) → Z.grownBy W5 (Value.slice ta (t.tk c).length tc).ownBlock → (u.ownBlock = (Value.slice ta (t.tk c).length tc).ownBlock ∨ u.ownBlock = some Z.heap.size) → (∃ ua uc,u = .slice ua ((t.tk c).length + 1) uc) ∧ ((W5.heap[g]? = some (.cells (lkC ra M rc v3) 116 (0,0)) ∧ W5.heap[w.heap.size]? = some (.cells #[.int .i64 who,.int .i64 op,.int .i64 (c : Int),.int .i64 va,.bool false] 39 (0,0))) ∧ ((W5.setCell ⟨b4,c,none⟩ u).heap[g]? = some (.cells (lkC ra M rc v3) 116 (0,0)) ∧ (W5.setCell ⟨b4,c,none⟩ u).heap[w.heap.size]? = some (.cells #[.int .i64 who,.int .i64 op,.int .i64 (c : Int),.int .i64 va,.bool false] 39 (0,0)))) ∧ W5.frozen? ⟨b4,c,none⟩ = false ∧ (∃ z,W5.cell? ⟨b4,c,none⟩ = some z) ∧ ∃ v',KM o (W5.setCell ⟨b4,c,none⟩ u) g ra rc R M K { t with ed:=t.ed ++ Tr.lnk x n,tk:=put t.tk c (t.tk c ++ [(n : Int)]) } v'):=fun W v3 hm hv Z u W5 hZ hZg h1 h2 h3 => by
  have q1 : v3 (.tk c) = .slice ta (t.tk c).length tc:=by rw [hv _ (by intro h;cases h)];exact et
  obtain ⟨a1,a2,a3,a4,a5⟩:=hm.tkEnds c hc (b:=b4) (cap:=cap4) (by rw [hv _ (by intro h;cases h)];exact e4) (n : Int) hZ u W5 h1 (by rw [q1];exact h2) (by rw [q1];exact h3)
  obtain ⟨g1,g2⟩:=a2 g _ _ _ hZg.1 (by decide) (by decide)
  obtain ⟨g3,g4⟩:=a2 _ _ _ _ hZg.2 (by decide) (by decide)
  exact ⟨a1,⟨⟨g1,g3⟩,g2,g4⟩,a3,a4,_,a5⟩
 have HRo : Hid (∀ W v3,KM o W g ra rc R M K { t with ed:=t.ed ++ Tr.lnk x n } v3 → (∀ i,i ≠ .ed → v3 i = v i) → W.ownsRow o.heap.size 3 1 (.slice ta (t.tk c).length tc) (t.tk c).length ((t.tk c).map (Value.int .i64)) ∧ W.cell? ⟨b4,c,none⟩ = some (.slice ta (t.tk c).length tc)):=fun W v3 hm hv => by
  have q1 : v3 (.tk c) = .slice ta (t.tk c).length tc:=by rw [hv _ (by intro h;cases h)];exact et
  refine ⟨?_,?_⟩
  ·rw [← q1];exact hm.fam.own (.tk c)
  ·obtain ⟨b',cap',e',y',_⟩:=hm.otAt c hc
   rw [hv _ (by intro h;cases h),e4] at e'
   injection e' with e1 _ _
   injection e1 with e1
   injection e1 with e1
   subst e1;rw [q1] at y'
   exact y'
 obtain ⟨tl,htl⟩ : ∃ tl,(t.tk c).length = tl:=⟨_,rfl⟩
 obtain ⟨sl,hsl⟩ : ∃ sl,(t.sn c).length = sl:=⟨_,rfl⟩
 rw [htl] at y4 yx HEn HRo hlt
 rw [hsl] at y3 hlt hs
 have ht0 : (0 : Int) ≤ (tl : Int):=by omega
 have ht1 : (tl : Int) < (sl : Int):=by omega
 clear hx htl hsl e3 e4 es et hns hA0 h
 have hA : Below w.heap.size w (w.alloc (.cells #[.int .i64 who,.int .i64 op,.int .i64 (c : Int),.int .i64 va,.bool false] 39)):=(Below.refl _ _).alloc (Nat.le_refl _) _
 have N1 : Hid ((w.alloc (.cells #[.int .i64 who,.int .i64 op,.int .i64 (c : Int),.int .i64 va,.bool false] 39)).heap[w.heap.size]? = some (.cells #[.int .i64 who,.int .i64 op,.int .i64 (c : Int),.int .i64 va,.bool false] 39 (0,0))):=heap_alloc_new w _
 have NB:=ζ hA
 clear hA
 go_enter Try.func59,Try.ntmps59
 refine wp_seq_k fun K hK => ?_
 have HK:=ζ hK
 clear hK
 go_wp2
 refine HK.out _ _ ?_
 clear HK K
 generalize w.alloc _ = X at *
 obtain ⟨z0,z1,z2,z3,z4⟩:=cellsY5 N1.out
 refine wp_seq_k fun K1 hK1 => ?_
 have HK1:=ζ hK1
 clear hK1
 go_wp2
 refine HK1.out _ _ ?_
 clear HK1 K1
 refine wp_seq_k fun K hK => ?_
 have HK:=ζ hK
 clear hK
 refine wp_region_noPanic ?_
 refine RG.wp_region_L (fun Z => Below X.heap.size X Z) (fun Z => True) [21] (by kernel_rfl) ?_
 refine RG.wpL_any fun Yz86 hY => ?_
 have HBz86 : Hid (Below X.heap.size X Yz86):=by rw [hY];exact below_drewN (Below.refl _ _) 1
 clear hY
 refine RG.wpL_takeS (fuel:=1) (a':=?Az86) [0,1,2,3,4,5,6,7,8,9,10,11,12,13,14,15,16,17,18,19,20] (by kernel_rfl) (by kernel_rfl) (fun _ _ _ _ _ h => h) trivial (HBz86.out) ?rz86 ?_
 case rz86 =>
  iterate 4
   refine RG.rS ?_ (fun Z hT hS => ?_) ?_
   rotate_left
   ·go_simp
    rfl
   simp only [Act.put,lA,lB,lC,lD,lE,lF]
  refine RG.rS (.slice (some ⟨b3,0,none⟩) M cap3) (fun Z hT hS => ?_) ?_
  ·obtain ⟨x0,x1,x2,x3,x4,x5,x6⟩:=cellsY7 (blk_keep HG.out hS);obtain ⟨z0,z1,z2,z3,z4⟩:=cellsY5 (blk_keep N1.out hS);rw [E3.out] at x3;rw [E4.out] at x4;have y3:=keepC hS y3;have y4:=keepC hS y4;have yx:=keepC hS yx
   go_simp
  simp only [Act.put,lA,lB,lC,lD,lE,lF]
  refine RG.rS ?_ (fun Z hT hS => ?_) ?_
  rotate_left
  ·go_simp
   rfl
  simp only [Act.put,lA,lB,lC,lD,lE,lF]
  refine RG.rS (.int .i64 (c : Int)) (fun Z hT hS => ?_) ?_
  ·obtain ⟨x0,x1,x2,x3,x4,x5,x6⟩:=cellsY7 (blk_keep HG.out hS);obtain ⟨z0,z1,z2,z3,z4⟩:=cellsY5 (blk_keep N1.out hS);rw [E3.out] at x3;rw [E4.out] at x4;have y3:=keepC hS y3;have y4:=keepC hS y4;have yx:=keepC hS yx
   go_simp
  simp only [Act.put,lA,lB,lC,lD,lE,lF]
  refine RG.rS ?_ (fun Z hT hS => ?_) ?_
  rotate_left
  ·go_simp
   rfl
  simp only [Act.put,lA,lB,lC,lD,lE,lF]
  refine RG.rS (.slice (some ⟨sb,so,none⟩) sl sc) (fun Z hT hS => ?_) ?_
  ·obtain ⟨x0,x1,x2,x3,x4,x5,x6⟩:=cellsY7 (blk_keep HG.out hS);obtain ⟨z0,z1,z2,z3,z4⟩:=cellsY5 (blk_keep N1.out hS);rw [E3.out] at x3;rw [E4.out] at x4;have y3:=keepC hS y3;have y4:=keepC hS y4;have yx:=keepC hS yx
   go_simp
  simp only [Act.put,lA,lB,lC,lD,lE,lF]
  iterate 3
   refine RG.rS ?_ (fun Z hT hS => ?_) ?_
   rotate_left
   ·go_simp
    rfl
   simp only [Act.put,lA,lB,lC,lD,lE,lF]
  refine RG.rS (.slice (some ⟨b4,0,none⟩) M cap4) (fun Z hT hS => ?_) ?_
  ·obtain ⟨x0,x1,x2,x3,x4,x5,x6⟩:=cellsY7 (blk_keep HG.out hS);obtain ⟨z0,z1,z2,z3,z4⟩:=cellsY5 (blk_keep N1.out hS);rw [E3.out] at x3;rw [E4.out] at x4;have y3:=keepC hS y3;have y4:=keepC hS y4;have yx:=keepC hS yx
   go_simp
  simp only [Act.put,lA,lB,lC,lD,lE,lF]
  refine RG.rS ?_ (fun Z hT hS => ?_) ?_
  rotate_left
  ·go_simp
   rfl
  simp only [Act.put,lA,lB,lC,lD,lE,lF]
  refine RG.rS (.int .i64 (c : Int)) (fun Z hT hS => ?_) ?_
  ·obtain ⟨x0,x1,x2,x3,x4,x5,x6⟩:=cellsY7 (blk_keep HG.out hS);obtain ⟨z0,z1,z2,z3,z4⟩:=cellsY5 (blk_keep N1.out hS);rw [E3.out] at x3;rw [E4.out] at x4;have y3:=keepC hS y3;have y4:=keepC hS y4;have yx:=keepC hS yx
   go_simp
  simp only [Act.put,lA,lB,lC,lD,lE,lF]
  refine RG.rS ?_ (fun Z hT hS => ?_) ?_
  rotate_left
  ·go_simp
   rfl
  simp only [Act.put,lA,lB,lC,lD,lE,lF]
  refine RG.rS (.slice ta tl tc) (fun Z hT hS => ?_) ?_
  ·obtain ⟨x0,x1,x2,x3,x4,x5,x6⟩:=cellsY7 (blk_keep HG.out hS);obtain ⟨z0,z1,z2,z3,z4⟩:=cellsY5 (blk_keep N1.out hS);rw [E3.out] at x3;rw [E4.out] at x4;have y3:=keepC hS y3;have y4:=keepC hS y4;have yx:=keepC hS yx
   go_simp
  simp only [Act.put,lA,lB,lC,lD,lE,lF]
  iterate 2
   refine RG.rS ?_ (fun Z hT hS => ?_) ?_
   rotate_left
   ·go_simp
    rfl
   simp only [Act.put,lA,lB,lC,lD,lE,lF]
  refine RG.rS (.int .i64 x) (fun Z hT hS => ?_) ?_
  ·obtain ⟨x0,x1,x2,x3,x4,x5,x6⟩:=cellsY7 (blk_keep HG.out hS);obtain ⟨z0,z1,z2,z3,z4⟩:=cellsY5 (blk_keep N1.out hS);rw [E3.out] at x3;rw [E4.out] at x4;have y3:=keepC hS y3;have y4:=keepC hS y4;have yx:=keepC hS yx
   go_simp
  simp only [Act.put,lA,lB,lC,lD,lE,lF]
  refine RG.rS ?_ (fun Z hT hS => ?_) ?_
  rotate_left
  ·go_simp
   rfl
  simp only [Act.put,lA,lB,lC,lD,lE,lF]
  exact RG.RunsS.nil
 refine RG.wpL_late (i:=21) (by kernel_rfl) (by rfl) (by rfl) (by kernel_rfl) (fun KX hK => ?_)
 have HK:=ζ hK
 clear hK
 go_simp
 refine (HLk.out Yz86 HBz86.out).mono ?_
 rintro e_z86 W1 ⟨rfl,⟨v3,hm3,hv3⟩,hk3⟩
 have HM3:=ζ hm3
 have E43 : Hid (v3 .ot = .slice (some ⟨b4,0,none⟩) M cap4):=by show _ = _;rw [hv3 _ (by intro h;cases h)];exact E4.out
 have HEnd:=ζ (HEn.out W1 v3 hm3 hv3)
 have HR3:=ζ (HRo.out W1 v3 hm3 hv3).1
 have y43:=(HRo.out W1 v3 hm3 hv3).2
 have HSo : Hid (o.heap.size ≤ W1.heap.size):=hm3.bl.size
 have N2 : Hid (W1.heap[w.heap.size]? = some (.cells #[.int .i64 who,.int .i64 op,.int .i64 (c : Int),.int .i64 va,.bool false] 39 (0,0))):=hk3 _ _ _ _ (blk_keep N1.out HBz86.out) (by decide) (by decide)
 clear hm3 hv3 hk3 HEn HRo
 refine HK.out _ _ trivial ?_
 clear HK KX
 try simp only [Act.put,lA,lB,lC,lD,lE,lF]
 refine RG.wpL_done (by kernel_rfl) ?_ _
 refine NoPanic.normal ?_
 refine HK.out _ _ ?_
 clear HK K
 refine wp_region_noPanic ?_
 refine RG.wp_region_L (fun Z => Below W1.heap.size W1 Z) (fun Z => Z.heap[g]? = some (.cells (lkC ra M rc v3) 116 (0,0)) ∧ Z.heap[w.heap.size]? = some (.cells #[.int .i64 who,.int .i64 op,.int .i64 (c : Int),.int .i64 va,.bool false] 39 (0,0))) [16,18] (by kernel_rfl) ?_
 refine RG.wpL_any fun Yz85 hY => ?_
 have HBz85 : Hid (Below W1.heap.size W1 Yz85):=by rw [hY];exact below_drewN (Below.refl _ _) 1
 clear hY
 have HTY:=ζ (And.intro (blk_keep HM3.out.blk HBz85.out) (blk_keep N2.out HBz85.out))
 refine RG.wpL_take (fuel:=4) (a':=?Az85) [0,1,2,3,4,5,6,7,8,9,10,11,12,13,14] (by kernel_rfl) (by kernel_rfl) (fun _ _ _ _ _ h => h) HTY.out (fun _ => HBz85.out) ?rz85 ?_
 case rz85 =>
  iterate 3
   refine RG.rW ?_ (fun Z hT => ?_) ?_
   rotate_left
   ·go_simp
    rfl
   simp only [Act.put,lA,lB,lC,lD,lE,lF]
  refine RG.rW (.slice (some ⟨b4,0,none⟩) M cap4) (fun Z hT => ?_) ?_
  ·obtain ⟨x0,x1,x2,x3,x4,x5,x6⟩:=cellsY7 hT.1;obtain ⟨z0,z1,z2,z3,z4⟩:=cellsY5 hT.2;rw [E43.out] at x4
   go_simp
  simp only [Act.put,lA,lB,lC,lD,lE,lF]
  refine RG.rW ?_ (fun Z hT => ?_) ?_
  rotate_left
  ·go_simp
   rfl
  simp only [Act.put,lA,lB,lC,lD,lE,lF]
  refine RG.rW (.int .i64 (c : Int)) (fun Z hT => ?_) ?_
  ·obtain ⟨x0,x1,x2,x3,x4,x5,x6⟩:=cellsY7 hT.1;obtain ⟨z0,z1,z2,z3,z4⟩:=cellsY5 hT.2;rw [E43.out] at x4
   go_simp
  simp only [Act.put,lA,lB,lC,lD,lE,lF]
  iterate 3
   refine RG.rW ?_ (fun Z hT => ?_) ?_
   rotate_left
   ·go_simp
    rfl
   simp only [Act.put,lA,lB,lC,lD,lE,lF]
  refine RG.rW (.slice (some ⟨b4,0,none⟩) M cap4) (fun Z hT => ?_) ?_
  ·obtain ⟨x0,x1,x2,x3,x4,x5,x6⟩:=cellsY7 hT.1;obtain ⟨z0,z1,z2,z3,z4⟩:=cellsY5 hT.2;rw [E43.out] at x4
   go_simp
  simp only [Act.put,lA,lB,lC,lD,lE,lF]
  refine RG.rW ?_ (fun Z hT => ?_) ?_
  rotate_left
  ·go_simp
   rfl
  simp only [Act.put,lA,lB,lC,lD,lE,lF]
  refine RG.rW (.int .i64 (c : Int)) (fun Z hT => ?_) ?_
  ·obtain ⟨x0,x1,x2,x3,x4,x5,x6⟩:=cellsY7 hT.1;obtain ⟨z0,z1,z2,z3,z4⟩:=cellsY5 hT.2;rw [E43.out] at x4
   go_simp
  simp only [Act.put,lA,lB,lC,lD,lE,lF]
  refine RG.rW ?_ (fun Z hT => ?_) ?_
  rotate_left
  ·go_simp
   rfl
  simp only [Act.put,lA,lB,lC,lD,lE,lF]
  refine RG.RunsIf.strong (v:=.slice ta tl tc) (by rfl) (by kernel_rfl) (by rfl) (fun Z hT hS => ?_) ?_
  ·have y4:=keepC hS y43
   go_simp
  simp only [Act.put,lA,lB,lC,lD,lE,lF]
  refine RG.rW ?_ (fun Z hT => ?_) ?_
  rotate_left
  ·go_simp
   rfl
  simp only [Act.put,lA,lB,lC,lD,lE,lF]
  exact RG.RunsIf.nil
 refine RG.wpL_step (i:=15) (by kernel_rfl) (by rfl) (by rfl) (fun KX hK => ?_)
 have HK:=ζ hK
 clear hK
 go_simp
 have hAb : Below W1.heap.size W1 (Yz85.alloc (.cells #[.int .i64 (n : Int)] 3)):=HBz85.out.alloc HBz85.out.size _
 have HAb:=ζ hAb
 have HQc : Hid (∀ j u,([.int .i64 (n : Int)] : List Value)[j]? = some u → (Yz85.alloc (.cells #[.int .i64 (n : Int)] 3)).cell? ((⟨Yz85.heap.size,0,none⟩ : Addr).add j) = some u):=cell_one_new _ _ _
 have HTb:=ζ (And.intro (blk_keep HM3.out.blk HAb.out) (blk_keep N2.out HAb.out))
 have HRw:=ζ (own_belowI HR3.out HAb.out)
 refine HK.out _ _ HTb.out (fun _ => HAb.out) ?_
 clear HK KX hAb HBz85 HTY
 generalize Yz85.alloc _ = Yb at *
 generalize Yz85.heap.size = gq at *
 try simp only [Act.put,lA,lB,lC,lD,lE,lF]
 refine RG.wpL_late (i:=16) (by kernel_rfl) (by rfl) (by rfl) (by kernel_rfl) (fun KX hK => ?_)
 have HK:=ζ hK
 clear hK
 obtain ⟨i3,hi3,hz30,hz31,hz32⟩:=info_parts' intinfo
 refine wp_append_at _ _ 24 (by rfl) o.heap.size 3 i3 _ 1 8 Try.underlying24 hi3 hz30 hz31 hz32 rfl (by decide) (.slice ta tl tc) tl ((t.tk c).map (Value.int .i64)) (by rfl) HRw.out ⟨gq,0,none⟩ 1 1 [.int .i64 (n : Int)] (by rfl) rfl HQc.out (by simp [Value.oneCell']) (by unfold maxLen;omega) (by omega) (Nat.le_trans HSo.out HAb.out.size) ?_
 intro uu W5 hown5 hgr5 hat5
 obtain ⟨⟨ua,uc,rfl⟩,hT5,fz,⟨zz,cz⟩,hkm⟩:=HEnd.out Yb uu W5 HAb.out HTb.out hown5 hgr5 hat5
 have HKM:=ζ hkm
 have HT5:=ζ hT5
 clear hown5 hgr5 hat5 hkm hT5 HQc HRw hi3 hz30 hz31 hz32 HTb HAb
 refine HK.out _ _ HT5.out.1 ?_
 clear HK KX
 try simp only [Act.put,lA,lB,lC,lD,lE,lF]
 refine RG.wpL_take (fuel:=1) (a':=?Bz85) [17] (by kernel_rfl) (by kernel_rfl) (fun _ _ _ _ _ h => h) HT5.out.1 (fun h => by cases (show false = true from h)) ?sz85 ?_
 case sz85 =>
  refine RG.rW ?_ (fun Z hT => ?_) ?_
  rotate_left
  ·go_simp
   rfl
  simp only [Act.put,lA,lB,lC,lD,lE,lF]
  exact RG.RunsIf.nil
 refine RG.wpL_late (i:=18) (by kernel_rfl) (by rfl) (by rfl) (by kernel_rfl) (fun KX hK => ?_)
 have HK:=ζ hK
 clear hK
 go_simp
 refine HK.out _ _ HT5.out.2 ?_
 clear HK KX cz fz HT5
 refine RG.wpL_done (by kernel_rfl) ?_ _
 refine NoPanic.normal ?_
 go_end0
 exact ⟨rfl,HKM.out⟩
end LW
end Go.Proofs.Ytfbnakmmmphedaa
namespace Go.Proofs.Ytfbnakmmmphedaa
open Go.RowKit
namespace LW
open Mc
theorem ptk5 {o : World} {g R M K rc : Nat} {ra : Option Addr} {t : Lt} {v : Ow → Value} (n c : Nat) (who va : Int) (sh : Bool) (w : World) (h : KM o w g ra rc R M K t v) (hc : c < M) (rms : List Int) (hr : NR o ra rms) (hM : rms.length = M) (rm : Int) (hrm : rms.getD c 0 = rm) (r0 : 0 ≤ rm) (r1 : rm ≤ 1000000) (hs : (t.sn c).length ≤ 40000) (hk : (t.tk c).length ≤ 40000) (hl : t.ed.length ≤ 3999999999) (E : List (Int × Int)) (hE : E = (if 0 ≤ (((t.sn c).length : Int) - rm) ∧ (((t.sn c).length : Int) - rm) < ((t.tk c).length : Int) then Tr.lnk ((t.tk c).getD (((t.sn c).length : Int) - rm).toNat 0) n else [])) :
  Calls Try.prog 50 #[.pointer (some ⟨g,0,none⟩),.int .i64 (n : Int),.agg #[.int .i64 who,.int .i64 5,.int .i64 (c : Int),.int .i64 va,.bool sh]] w fun e w' => e = .returned (.tuple #[]) ∧ ∃ v',KM o w' g ra rc R M K { t with ed:=t.ed ++ E,sn:=put t.sn c (t.sn c ++ [(n : Int)]) } v':=by
 have hA0 : Below w.heap.size w (w.alloc (.cells #[.int .i64 who,.int .i64 5,.int .i64 (c : Int),.int .i64 va,.bool sh] 39)):=(Below.refl w.heap.size w).alloc (Nat.le_refl _) _
 have HM:=ζ (h.below hA0)
 clear hA0 h
 have hA : Below w.heap.size w (w.alloc (.cells #[.int .i64 who,.int .i64 5,.int .i64 (c : Int),.int .i64 va,.bool sh] 39)):=(Below.refl _ _).alloc (Nat.le_refl _) _
 have N1 : Hid ((w.alloc (.cells #[.int .i64 who,.int .i64 5,.int .i64 (c : Int),.int .i64 va,.bool sh] 39)).heap[w.heap.size]? = some (.cells #[.int .i64 who,.int .i64 5,.int .i64 (c : Int),.int .i64 va,.bool sh] 39 (0,0))):=heap_alloc_new w _
 have NB:=ζ hA
 clear hA
 go_enter Try.func50,Try.ntmps50
 refine wp_seq_k fun K hK => ?_
 have HK:=ζ hK
 clear hK
 go_wp2
 refine HK.out _ _ ?_
 clear HK K
 generalize w.alloc _ = X at *
 obtain ⟨z0,z1,z2,z3,z4⟩:=cellsY5 N1.out
 go_wp2_with fail
 refine (psend n c rms X HM.out hc hr hM rm hrm r0 r1 hs hk hl E hE).mono ?_
 rintro e1 W1 ⟨rfl,v3,hm3⟩
 have HM3:=ζ hm3
 clear hm3
 go_wp2
 go_end0
 exact ⟨rfl,v3,HM3.out⟩
theorem ptk6s {o : World} {g R M K rc : Nat} {ra : Option Addr} {t : Lt} {v : Ow → Value} (n c : Nat) (who va : Int) (w : World) (h : KM o w g ra rc R M K t v) (hc : c < M) (hl : t.ed.length ≤ 4000000000) :
  Calls Try.prog 50 #[.pointer (some ⟨g,0,none⟩),.int .i64 (n : Int),.agg #[.int .i64 who,.int .i64 6,.int .i64 (c : Int),.int .i64 va,.bool true]] w fun e w' => e = .returned (.tuple #[]) ∧ ∃ v',KM o w' g ra rc R M K { t with ed:=t.ed ++ Tr.lnk (t.sh c) n } v':=by
 have hA0 : Below w.heap.size w (w.alloc (.cells #[.int .i64 who,.int .i64 6,.int .i64 (c : Int),.int .i64 va,.bool true] 39)):=(Below.refl w.heap.size w).alloc (Nat.le_refl _) _
 have HM:=ζ (h.below hA0)
 clear hA0 h
 have hA : Below w.heap.size w (w.alloc (.cells #[.int .i64 who,.int .i64 6,.int .i64 (c : Int),.int .i64 va,.bool true] 39)):=(Below.refl _ _).alloc (Nat.le_refl _) _
 have N1 : Hid ((w.alloc (.cells #[.int .i64 who,.int .i64 6,.int .i64 (c : Int),.int .i64 va,.bool true] 39)).heap[w.heap.size]? = some (.cells #[.int .i64 who,.int .i64 6,.int .i64 (c : Int),.int .i64 va,.bool true] 39 (0,0))):=heap_alloc_new w _
 have NB:=ζ hA
 clear hA
 go_enter Try.func50,Try.ntmps50
 refine wp_seq_k fun K hK => ?_
 have HK:=ζ hK
 clear hK
 go_wp2
 refine HK.out _ _ ?_
 clear HK K
 generalize w.alloc _ = X at *
 obtain ⟨z0,z1,z2,z3,z4⟩:=cellsY5 N1.out
 go_wp2_with fail
 refine (precvS n c who 6 va X HM.out hc hl).mono ?_
 rintro e1 W1 ⟨rfl,v3,hm3,_⟩
 have HM3:=ζ hm3
 clear hm3
 go_wp2
 go_end0
 exact ⟨rfl,v3,HM3.out⟩
theorem ptk6v {o : World} {g R M K rc : Nat} {ra : Option Addr} {t : Lt} {v : Ow → Value} (n c : Nat) (who va : Int) (w : World) (h : KM o w g ra rc R M K t v) (hc : c < M) (hl : t.ed.length ≤ 3999999999) (hs : (t.sn c).length ≤ 40000) (hlt : (t.tk c).length < (t.sn c).length) (x : Int) (hx : (t.sn c).getD (t.tk c).length 0 = x) :
  Calls Try.prog 50 #[.pointer (some ⟨g,0,none⟩),.int .i64 (n : Int),.agg #[.int .i64 who,.int .i64 6,.int .i64 (c : Int),.int .i64 va,.bool false]] w fun e w' => e = .returned (.tuple #[]) ∧ ∃ v',KM o w' g ra rc R M K { t with ed:=t.ed ++ Tr.lnk x n,tk:=put t.tk c (t.tk c ++ [(n : Int)]) } v':=by
 have hA0 : Below w.heap.size w (w.alloc (.cells #[.int .i64 who,.int .i64 6,.int .i64 (c : Int),.int .i64 va,.bool false] 39)):=(Below.refl w.heap.size w).alloc (Nat.le_refl _) _
 have HM:=ζ (h.below hA0)
 clear hA0 h
 have hA : Below w.heap.size w (w.alloc (.cells #[.int .i64 who,.int .i64 6,.int .i64 (c : Int),.int .i64 va,.bool false] 39)):=(Below.refl _ _).alloc (Nat.le_refl _) _
 have N1 : Hid ((w.alloc (.cells #[.int .i64 who,.int .i64 6,.int .i64 (c : Int),.int .i64 va,.bool false] 39)).heap[w.heap.size]? = some (.cells #[.int .i64 who,.int .i64 6,.int .i64 (c : Int),.int .i64 va,.bool false] 39 (0,0))):=heap_alloc_new w _
 have NB:=ζ hA
 clear hA
 go_enter Try.func50,Try.ntmps50
 refine wp_seq_k fun K hK => ?_
 have HK:=ζ hK
 clear hK
 go_wp2
 refine HK.out _ _ ?_
 clear HK K
 generalize w.alloc _ = X at *
 obtain ⟨z0,z1,z2,z3,z4⟩:=cellsY5 N1.out
 go_wp2_with fail
 refine (precvV n c who 6 va X HM.out hc hl hs hlt x hx).mono ?_
 rintro e1 W1 ⟨rfl,v3,hm3⟩
 have HM3:=ζ hm3
 clear hm3
 go_wp2
 go_end0
 exact ⟨rfl,v3,HM3.out⟩
theorem ptkN {o : World} {g R M K rc : Nat} {ra : Option Addr} {t : Lt} {v : Ow → Value} (n : Nat) (who op a va : Int) (sh : Bool) (w : World) (h : KM o w g ra rc R M K t v) (h14 : ¬ (op = 14 ∧ 0 < va)) (h5 : op ≠ 5) (h6 : op ≠ 6) (h7 : op ≠ 7) (h9 : op ≠ 9) (h8 : op ≠ 8) :
  Calls Try.prog 50 #[.pointer (some ⟨g,0,none⟩),.int .i64 (n : Int),.agg #[.int .i64 who,.int .i64 op,.int .i64 a,.int .i64 va,.bool sh]] w fun e w' => e = .returned (.tuple #[]) ∧ ∃ v',KM o w' g ra rc R M K t v':=by
 have hA0 : Below w.heap.size w (w.alloc (.cells #[.int .i64 who,.int .i64 op,.int .i64 a,.int .i64 va,.bool sh] 39)):=(Below.refl w.heap.size w).alloc (Nat.le_refl _) _
 have HM:=ζ (h.below hA0)
 have k5 : (op == 5) = false:=by simp [h5]
 have k6 : (op == 6) = false:=by simp [h6]
 have k7 : (op == 7) = false:=by simp [h7]
 have k8 : (op == 8) = false:=by simp [h8]
 have k9 : (op == 9) = false:=by simp [h9]
 clear hA0 h h5 h6 h7 h8 h9
 have hA : Below w.heap.size w (w.alloc (.cells #[.int .i64 who,.int .i64 op,.int .i64 a,.int .i64 va,.bool sh] 39)):=(Below.refl _ _).alloc (Nat.le_refl _) _
 have N1 : Hid ((w.alloc (.cells #[.int .i64 who,.int .i64 op,.int .i64 a,.int .i64 va,.bool sh] 39)).heap[w.heap.size]? = some (.cells #[.int .i64 who,.int .i64 op,.int .i64 a,.int .i64 va,.bool sh] 39 (0,0))):=heap_alloc_new w _
 have NB:=ζ hA
 clear hA
 go_enter Try.func50,Try.ntmps50
 refine wp_seq_k fun K hK => ?_
 have HK:=ζ hK
 clear hK
 go_wp2
 refine HK.out _ _ ?_
 clear HK K
 generalize w.alloc _ = X at *
 obtain ⟨z0,z1,z2,z3,z4⟩:=cellsY5 N1.out
 by_cases g14 : op = 14
 ·have k14 : (op == 14) = true:=by simp [g14]
  have kv : ¬ (0 : Int) < va:=fun h => h14 ⟨g14,h⟩
  clear g14 h14;go_wp2;go_end0
  exact ⟨rfl,v,HM.out⟩
 ·have k14 : (op == 14) = false:=by simp [g14]
  clear g14 h14;go_wp2;go_end0
  exact ⟨rfl,v,HM.out⟩
theorem ptk14 {o : World} {g R M K rc : Nat} {ra : Option Addr} {t : Lt} {v : Ow → Value} (n r : Nat) (who a : Int) (sh : Bool) (w : World) (h : KM o w g ra rc R M K t v) (hr : r < R) (h0 : 0 < r) :
  Calls Try.prog 50 #[.pointer (some ⟨g,0,none⟩),.int .i64 (n : Int),.agg #[.int .i64 who,.int .i64 14,.int .i64 a,.int .i64 (r : Int),.bool sh]] w fun e w' => e = .returned (.tuple #[]) ∧ ∃ v',KM o w' g ra rc R M K { t with la:=put t.la r (n : Int) } v':=by
 have hA0 : Below w.heap.size w (w.alloc (.cells #[.int .i64 who,.int .i64 14,.int .i64 a,.int .i64 (r : Int),.bool sh] 39)):=(Below.refl w.heap.size w).alloc (Nat.le_refl _) _
 have HM:=ζ (h.below hA0)
 obtain ⟨b2,cap2,e2,y2,_⟩:=h.laAt r hr
 have E2:=ζ e2
 have HX : Hid (∀ Y,Below (w.alloc (.cells #[.int .i64 who,.int .i64 14,.int .i64 a,.int .i64 (r : Int),.bool sh] 39)).heap.size (w.alloc (.cells #[.int .i64 who,.int .i64 14,.int .i64 a,.int .i64 (r : Int),.bool sh] 39)) Y → Y.cell? ⟨b2,r,none⟩ = some (.int .i64 (t.la r)) ∧ Y.frozen? ⟨b2,r,none⟩ = false ∧ KM o (Y.setCell ⟨b2,r,none⟩ (.int .i64 (n : Int))) g ra rc R M K { t with la:=put t.la r (n : Int) } v):=fun Y hY => by
  have hm:=(h.below hA0).below hY
  obtain ⟨b',cap',e',y',f'⟩:=hm.laAt r hr
  rw [e2] at e'
  injection e' with e1 _ _
  injection e1 with e1
  injection e1 with e1
  subst e1;exact ⟨y',f',hm.setLa e2 r (n : Int)⟩
 have hr0 : (0 : Int) ≤ (r : Int):=by omega
 have hr1 : (r : Int) < (R : Int):=by omega
 have hr2 : (0 : Int) < (r : Int):=by omega
 clear hA0 h e2 y2
 have hA : Below w.heap.size w (w.alloc (.cells #[.int .i64 who,.int .i64 14,.int .i64 a,.int .i64 (r : Int),.bool sh] 39)):=(Below.refl _ _).alloc (Nat.le_refl _) _
 have N1 : Hid ((w.alloc (.cells #[.int .i64 who,.int .i64 14,.int .i64 a,.int .i64 (r : Int),.bool sh] 39)).heap[w.heap.size]? = some (.cells #[.int .i64 who,.int .i64 14,.int .i64 a,.int .i64 (r : Int),.bool sh] 39 (0,0))):=heap_alloc_new w _
 have NB:=ζ hA
 clear hA
 go_enter Try.func50,Try.ntmps50
 refine wp_seq_k fun K hK => ?_
 have HK:=ζ hK
 clear hK
 go_wp2
 refine HK.out _ _ ?_
 clear HK K
 generalize w.alloc _ = X at *
 obtain ⟨z0,z1,z2,z3,z4⟩:=cellsY5 N1.out
 go_wp2
 refine wp_region_noPanic ?_
 refine RG.wp_region_L (fun Z => Below X.heap.size X Z) (fun Z => True) [8] (by kernel_rfl) ?_
 refine RG.wpL_any fun Yz87 hY => ?_
 have HBz87 : Hid (Below X.heap.size X Yz87):=by rw [hY];exact below_drewN (Below.refl _ _) 1
 clear hY
 refine RG.wpL_takeS (fuel:=1) (a':=?Az87) [0,1,2,3,4,5,6,7] (by kernel_rfl) (by kernel_rfl) (fun _ _ _ _ _ h => h) trivial (HBz87.out) ?rz87 ?_
 case rz87 =>
  iterate 3
   refine RG.rS ?_ (fun Z hT hS => ?_) ?_
   rotate_left
   ·go_simp
    rfl
   simp only [Act.put,lA,lB,lC,lD,lE,lF]
  refine RG.rS (.slice (some ⟨b2,0,none⟩) R cap2) (fun Z hT hS => ?_) ?_
  ·obtain ⟨x0,x1,x2,x3,x4,x5,x6⟩:=cellsY7 (blk_keep HM.out.blk hS);obtain ⟨z0,z1,z2,z3,z4⟩:=cellsY5 (blk_keep N1.out hS);rw [E2.out] at x2
   go_simp
  simp only [Act.put,lA,lB,lC,lD,lE,lF]
  refine RG.rS ?_ (fun Z hT hS => ?_) ?_
  rotate_left
  ·go_simp
   rfl
  simp only [Act.put,lA,lB,lC,lD,lE,lF]
  refine RG.rS (.int .i64 (r : Int)) (fun Z hT hS => ?_) ?_
  ·obtain ⟨x0,x1,x2,x3,x4,x5,x6⟩:=cellsY7 (blk_keep HM.out.blk hS);obtain ⟨z0,z1,z2,z3,z4⟩:=cellsY5 (blk_keep N1.out hS);rw [E2.out] at x2
   go_simp
  simp only [Act.put,lA,lB,lC,lD,lE,lF]
  iterate 2
   refine RG.rS ?_ (fun Z hT hS => ?_) ?_
   rotate_left
   ·go_simp
    rfl
   simp only [Act.put,lA,lB,lC,lD,lE,lF]
  exact RG.RunsS.nil
 obtain ⟨cz,fz,hNM⟩:=HX.out Yz87 HBz87.out
 have HNM:=ζ hNM
 clear hNM
 refine RG.wpL_late (i:=8) (by kernel_rfl) (by rfl) (by rfl) (by kernel_rfl) (fun KX hK => ?_)
 have HK:=ζ hK
 clear hK
 go_simp
 refine HK.out _ _ trivial ?_
 clear HK KX cz fz
 refine RG.wpL_done (by kernel_rfl) ?_ _
 refine NoPanic.normal ?_
 go_wp2
 go_end0
 exact ⟨rfl,v,HNM.out⟩
theorem ptk7 {o : World} {g R M K rc : Nat} {ra : Option Addr} {t : Lt} {v : Ow → Value} (n c : Nat) (who va : Int) (sh : Bool) (w : World) (h : KM o w g ra rc R M K t v) (hc : c < M) (s7 : Int) (h7 : s7 = if t.sh c = -1 then (n : Int) else t.sh c) :
  Calls Try.prog 50 #[.pointer (some ⟨g,0,none⟩),.int .i64 (n : Int),.agg #[.int .i64 who,.int .i64 7,.int .i64 (c : Int),.int .i64 va,.bool sh]] w fun e w' => e = .returned (.tuple #[]) ∧ ∃ v',KM o w' g ra rc R M K { t with sh:=put t.sh c s7 } v':=by
 have hA0 : Below w.heap.size w (w.alloc (.cells #[.int .i64 who,.int .i64 7,.int .i64 (c : Int),.int .i64 va,.bool sh] 39)):=(Below.refl w.heap.size w).alloc (Nat.le_refl _) _
 have HM:=ζ (h.below hA0)
 obtain ⟨b5,cap5,e5,y5,_⟩:=h.shAt c hc
 have y5:=keepC hA0 y5
 have E5:=ζ e5
 have HX : Hid (t.sh c = -1 → ∀ Y,Below (w.alloc (.cells #[.int .i64 who,.int .i64 7,.int .i64 (c : Int),.int .i64 va,.bool sh] 39)).heap.size (w.alloc (.cells #[.int .i64 who,.int .i64 7,.int .i64 (c : Int),.int .i64 va,.bool sh] 39)) Y → Y.cell? ⟨b5,c,none⟩ = some (.int .i64 (t.sh c)) ∧ Y.frozen? ⟨b5,c,none⟩ = false ∧ KM o (Y.setCell ⟨b5,c,none⟩ (.int .i64 (n : Int))) g ra rc R M K { t with sh:=put t.sh c s7 } v):=fun hq Y hY => by
  have hm:=(h.below hA0).below hY
  obtain ⟨b',cap',e',y',f'⟩:=hm.shAt c hc
  rw [e5] at e'
  injection e' with e1 _ _
  injection e1 with e1
  injection e1 with e1
  subst e1;refine ⟨y',f',?_⟩
  rw [h7,if_pos hq];exact hm.setSh e5 c (n : Int)
 have HI : Hid (t.sh c ≠ -1 → ∀ Y,Below (w.alloc (.cells #[.int .i64 who,.int .i64 7,.int .i64 (c : Int),.int .i64 va,.bool sh] 39)).heap.size (w.alloc (.cells #[.int .i64 who,.int .i64 7,.int .i64 (c : Int),.int .i64 va,.bool sh] 39)) Y → KM o Y g ra rc R M K { t with sh:=put t.sh c s7 } v):=fun hq Y hY => by
  rw [h7,if_neg hq];have e : put t.sh c (t.sh c) = t.sh:=funext fun j => by unfold put;split <;> simp_all
  rw [e];exact (h.below hA0).below hY
 have hc0 : (0 : Int) ≤ (c : Int):=by omega
 have hc1 : (c : Int) < (M : Int):=by omega
 clear hA0 h e5 h7
 obtain ⟨xs,hxs⟩ : ∃ xs,t.sh c = xs:=⟨_,rfl⟩
 have HXs:=ζ hxs
 rw [hxs] at y5 HX HI
 clear hxs
 have hA : Below w.heap.size w (w.alloc (.cells #[.int .i64 who,.int .i64 7,.int .i64 (c : Int),.int .i64 va,.bool sh] 39)):=(Below.refl _ _).alloc (Nat.le_refl _) _
 have N1 : Hid ((w.alloc (.cells #[.int .i64 who,.int .i64 7,.int .i64 (c : Int),.int .i64 va,.bool sh] 39)).heap[w.heap.size]? = some (.cells #[.int .i64 who,.int .i64 7,.int .i64 (c : Int),.int .i64 va,.bool sh] 39 (0,0))):=heap_alloc_new w _
 have NB:=ζ hA
 clear hA
 go_enter Try.func50,Try.ntmps50
 refine wp_seq_k fun K hK => ?_
 have HK:=ζ hK
 clear hK
 go_wp2
 refine HK.out _ _ ?_
 clear HK K
 generalize w.alloc _ = X at *
 obtain ⟨z0,z1,z2,z3,z4⟩:=cellsY5 N1.out
 go_wp2
 refine wp_region_noPanic ?_
 refine RG.wp_region_L (fun Z => Below X.heap.size X Z) (fun Z => True) [] (by kernel_rfl) ?_
 refine RG.wpL_any fun Yz88 hY => ?_
 have HBz88 : Hid (Below X.heap.size X Yz88):=by rw [hY];exact below_drewN (Below.refl _ _) 1
 clear hY
 refine RG.wpL_takeS (fuel:=0) (a':=?Az88) [0,1,2,3,4,5,6,7,8] (by kernel_rfl) (by kernel_rfl) (fun _ _ _ _ _ h => h) trivial (HBz88.out) ?rz88 ?_
 case rz88 =>
  iterate 3
   refine RG.rS ?_ (fun Z hT hS => ?_) ?_
   rotate_left
   ·go_simp
    rfl
   simp only [Act.put,lA,lB,lC,lD,lE,lF]
  refine RG.rS (.slice (some ⟨b5,0,none⟩) M cap5) (fun Z hT hS => ?_) ?_
  ·obtain ⟨x0,x1,x2,x3,x4,x5,x6⟩:=cellsY7 (blk_keep HM.out.blk hS);obtain ⟨z0,z1,z2,z3,z4⟩:=cellsY5 (blk_keep N1.out hS);rw [E5.out] at x5;have y5:=keepC hS y5
   go_simp
  simp only [Act.put,lA,lB,lC,lD,lE,lF]
  refine RG.rS ?_ (fun Z hT hS => ?_) ?_
  rotate_left
  ·go_simp
   rfl
  simp only [Act.put,lA,lB,lC,lD,lE,lF]
  refine RG.rS (.int .i64 (c : Int)) (fun Z hT hS => ?_) ?_
  ·obtain ⟨x0,x1,x2,x3,x4,x5,x6⟩:=cellsY7 (blk_keep HM.out.blk hS);obtain ⟨z0,z1,z2,z3,z4⟩:=cellsY5 (blk_keep N1.out hS);rw [E5.out] at x5;have y5:=keepC hS y5
   go_simp
  simp only [Act.put,lA,lB,lC,lD,lE,lF]
  refine RG.rS ?_ (fun Z hT hS => ?_) ?_
  rotate_left
  ·go_simp
   rfl
  simp only [Act.put,lA,lB,lC,lD,lE,lF]
  refine RG.rS (.int .i64 xs) (fun Z hT hS => ?_) ?_
  ·obtain ⟨x0,x1,x2,x3,x4,x5,x6⟩:=cellsY7 (blk_keep HM.out.blk hS);obtain ⟨z0,z1,z2,z3,z4⟩:=cellsY5 (blk_keep N1.out hS);rw [E5.out] at x5;have y5:=keepC hS y5
   go_simp
  simp only [Act.put,lA,lB,lC,lD,lE,lF]
  refine RG.rS ?_ (fun Z hT hS => ?_) ?_
  rotate_left
  ·go_simp
   rfl
  simp only [Act.put,lA,lB,lC,lD,lE,lF]
  exact RG.RunsS.nil
 refine RG.wpL_done (by kernel_rfl) ?_ _
 refine NoPanic.normal ?_
 by_cases hq : xs = -1
 ·have kq : (xs == -1) = true:=by simp [hq]
  have HX2:=ζ (HX.out hq)
  have HMy:=ζ (HM.out.below HBz88.out)
  have N1y:=ζ (blk_keep N1.out HBz88.out)
  have y5:=keepC HBz88.out y5
  have HBy : Hid (∀ Z,Below Yz88.heap.size Yz88 Z → Below X.heap.size X Z):=fun Z hZ => HBz88.out.trans (hZ.mono HBz88.out.size)
  clear hq HM N1 HX HI HXs HBz88;go_wp2;refine wp_region_noPanic ?_
  refine RG.wp_region_L (fun Z => Below Yz88.heap.size Yz88 Z) (fun Z => True) [8] (by kernel_rfl) ?_
  refine RG.wpL_any fun Yz89 hY => ?_
  have HBz89 : Hid (Below Yz88.heap.size Yz88 Yz89):=by rw [hY];exact below_drewN (Below.refl _ _) 1
  clear hY;refine RG.wpL_takeS (fuel:=1) (a':=?Az89) [0,1,2,3,4,5,6,7] (by kernel_rfl) (by kernel_rfl) (fun _ _ _ _ _ h => h) trivial (HBz89.out) ?rz89 ?_
  case rz89 =>
   iterate 3
    refine RG.rS ?_ (fun Z hT hS => ?_) ?_
    rotate_left
    ·go_simp
     rfl
    simp only [Act.put,lA,lB,lC,lD,lE,lF]
   refine RG.rS (.slice (some ⟨b5,0,none⟩) M cap5) (fun Z hT hS => ?_) ?_
   ·obtain ⟨x0,x1,x2,x3,x4,x5,x6⟩:=cellsY7 (blk_keep HMy.out.blk hS);obtain ⟨z0,z1,z2,z3,z4⟩:=cellsY5 (blk_keep N1y.out hS);rw [E5.out] at x5;have y5:=keepC hS y5
    go_simp
   simp only [Act.put,lA,lB,lC,lD,lE,lF]
   refine RG.rS ?_ (fun Z hT hS => ?_) ?_
   rotate_left
   ·go_simp
    rfl
   simp only [Act.put,lA,lB,lC,lD,lE,lF]
   refine RG.rS (.int .i64 (c : Int)) (fun Z hT hS => ?_) ?_
   ·obtain ⟨x0,x1,x2,x3,x4,x5,x6⟩:=cellsY7 (blk_keep HMy.out.blk hS);obtain ⟨z0,z1,z2,z3,z4⟩:=cellsY5 (blk_keep N1y.out hS);rw [E5.out] at x5;have y5:=keepC hS y5
    go_simp
   simp only [Act.put,lA,lB,lC,lD,lE,lF]
   iterate 2
    refine RG.rS ?_ (fun Z hT hS => ?_) ?_
    rotate_left
    ·go_simp
     rfl
    simp only [Act.put,lA,lB,lC,lD,lE,lF]
   exact RG.RunsS.nil
  obtain ⟨cz,fz,hNM⟩:=HX2.out Yz89 (HBy.out _ HBz89.out)
  have HNM:=ζ hNM
  clear hNM;refine RG.wpL_late (i:=8) (by kernel_rfl) (by rfl) (by rfl) (by kernel_rfl) (fun KX hK => ?_)
  have HK:=ζ hK
  clear hK;go_simp;refine HK.out _ _ trivial ?_
  clear HK KX cz fz;refine RG.wpL_done (by kernel_rfl) ?_ _
  refine NoPanic.normal ?_
  go_wp2;go_end0
  exact ⟨rfl,v,HNM.out⟩
 ·have kq : (xs == -1) = false:=by simp [hq]
  have HMy:=ζ (HI.out hq Yz88 HBz88.out)
  clear hq;go_wp2;go_end0
  exact ⟨rfl,v,HMy.out⟩
end LW
end Go.Proofs.Ytfbnakmmmphedaa
namespace Go.Proofs.Ytfbnakmmmphedaa
open Go.RowKit
namespace LW
open Mc
theorem ptk9 {o : World} {g R M K rc : Nat} {ra : Option Addr} {t : Lt} {v : Ow → Value} (n c : Nat) (who va : Int) (sh : Bool) (w : World) (h : KM o w g ra rc R M K t v) (hc : c < K) (hs : (t.fr c).length ≤ 40000) :
  Calls Try.prog 50 #[.pointer (some ⟨g,0,none⟩),.int .i64 (n : Int),.agg #[.int .i64 who,.int .i64 9,.int .i64 (c : Int),.int .i64 va,.bool sh]] w fun e w' => e = .returned (.tuple #[]) ∧ ∃ v',KM o w' g ra rc R M K { t with fr:=put t.fr c (t.fr c ++ [(n : Int)]) } v':=by
 have hA0 : Below w.heap.size w (w.alloc (.cells #[.int .i64 who,.int .i64 9,.int .i64 (c : Int),.int .i64 va,.bool sh] 39)):=(Below.refl w.heap.size w).alloc (Nat.le_refl _) _
 have hm:=h.below hA0
 have HM:=ζ hm
 obtain ⟨b6,cap6,e6,y6,_⟩:=hm.ogAt c hc
 obtain ⟨fa,fc,ef,_⟩:=hm.frIs c
 rw [ef] at y6
 have E6:=ζ e6
 have hc0 : (0 : Int) ≤ (c : Int):=by omega
 have hc1 : (c : Int) < (K : Int):=by omega
 have HR3 : Hid ((w.alloc (.cells #[.int .i64 who,.int .i64 9,.int .i64 (c : Int),.int .i64 va,.bool sh] 39)).ownsRow o.heap.size 3 1 (.slice fa (t.fr c).length fc) (t.fr c).length ((t.fr c).map (Value.int .i64))):=by
  show World.ownsRow _ _ _ _ _ _ _
  rw [← ef];exact hm.fam.own (.fr c)
 have HEnd : Hid (∀ Z u W5,Below (w.alloc (.cells #[.int .i64 who,.int .i64 9,.int .i64 (c : Int),.int .i64 va,.bool sh] 39)).heap.size (w.alloc (.cells #[.int .i64 who,.int .i64 9,.int .i64 (c : Int),.int .i64 va,.bool sh] 39)) Z → (Z.heap[g]? = some (.cells (lkC ra M rc v) 116 (0,0)) ∧ Z.heap[w.heap.size]? = some (.cells #[.int .i64 who,.int .i64 9,.int .i64 (c : Int),.int .i64 va,.bool sh] 39 (0,0))) → W5.ownsRow o.heap.size 3 1 u ((t.fr c).length + 1) ((t.fr c).map (Value.int .i64) ++ [.int .i64 (n : Int)]) → Z.grownBy W5 (Value.slice fa (t.fr c).length fc).ownBlock → (u.ownBlock = (Value.slice fa (t.fr c).length fc).ownBlock ∨ u.ownBlock = some Z.heap.size) → (∃ ua uc,u = .slice ua ((t.fr c).length + 1) uc) ∧ ((W5.heap[g]? = some (.cells (lkC ra M rc v) 116 (0,0)) ∧ W5.heap[w.heap.size]? = some (.cells #[.int .i64 who,.int .i64 9,.int .i64 (c : Int),.int .i64 va,.bool sh] 39 (0,0))) ∧ ((W5.setCell ⟨b6,c,none⟩ u).heap[g]? = some (.cells (lkC ra M rc v) 116 (0,0)) ∧ (W5.setCell ⟨b6,c,none⟩ u).heap[w.heap.size]? = some (.cells #[.int .i64 who,.int .i64 9,.int .i64 (c : Int),.int .i64 va,.bool sh] 39 (0,0)))) ∧ W5.frozen? ⟨b6,c,none⟩ = false ∧ (∃ z,W5.cell? ⟨b6,c,none⟩ = some z) ∧ ∃ v',KM o (W5.setCell ⟨b6,c,none⟩ u) g ra rc R M K { t with fr:=put t.fr c (t.fr c ++ [(n : Int)]) } v'):=fun Z u W5 hZ hZg h1 h2 h3 => by
  obtain ⟨a1,a2,a3,a4,a5⟩:=hm.frEnds c hc (b:=b6) (cap:=cap6) e6 (n : Int) hZ u W5 h1 (by rw [ef];exact h2) (by rw [ef];exact h3)
  obtain ⟨g1,g2⟩:=a2 g _ _ _ hZg.1 (by decide) (by decide)
  obtain ⟨g3,g4⟩:=a2 _ _ _ _ hZg.2 (by decide) (by decide)
  exact ⟨a1,⟨⟨g1,g3⟩,g2,g4⟩,a3,a4,_,a5⟩
 have HSo : Hid (o.heap.size ≤ (w.alloc (.cells #[.int .i64 who,.int .i64 9,.int .i64 (c : Int),.int .i64 va,.bool sh] 39)).heap.size):=hm.bl.size
 obtain ⟨fl,hfl⟩ : ∃ fl,(t.fr c).length = fl:=⟨_,rfl⟩
 rw [hfl] at y6 HR3 HEnd hs
 clear hfl hA0 h hm e6 ef
 have hA : Below w.heap.size w (w.alloc (.cells #[.int .i64 who,.int .i64 9,.int .i64 (c : Int),.int .i64 va,.bool sh] 39)):=(Below.refl _ _).alloc (Nat.le_refl _) _
 have N1 : Hid ((w.alloc (.cells #[.int .i64 who,.int .i64 9,.int .i64 (c : Int),.int .i64 va,.bool sh] 39)).heap[w.heap.size]? = some (.cells #[.int .i64 who,.int .i64 9,.int .i64 (c : Int),.int .i64 va,.bool sh] 39 (0,0))):=heap_alloc_new w _
 have NB:=ζ hA
 clear hA
 go_enter Try.func50,Try.ntmps50
 refine wp_seq_k fun K hK => ?_
 have HK:=ζ hK
 clear hK
 go_wp2
 refine HK.out _ _ ?_
 clear HK K
 generalize w.alloc _ = X at *
 obtain ⟨z0,z1,z2,z3,z4⟩:=cellsY5 N1.out
 go_wp2
 refine wp_region_noPanic ?_
 refine RG.wp_region_L (fun Z => Below X.heap.size X Z) (fun Z => Z.heap[g]? = some (.cells (lkC ra M rc v) 116 (0,0)) ∧ Z.heap[w.heap.size]? = some (.cells #[.int .i64 who,.int .i64 9,.int .i64 (c : Int),.int .i64 va,.bool sh] 39 (0,0))) [16,18] (by kernel_rfl) ?_
 refine RG.wpL_any fun Yz90 hY => ?_
 have HBz90 : Hid (Below X.heap.size X Yz90):=by rw [hY];exact below_drewN (Below.refl _ _) 1
 clear hY
 have HTY:=ζ (And.intro (blk_keep HM.out.blk HBz90.out) (blk_keep N1.out HBz90.out))
 refine RG.wpL_take (fuel:=4) (a':=?Az90) [0,1,2,3,4,5,6,7,8,9,10,11,12,13,14] (by kernel_rfl) (by kernel_rfl) (fun _ _ _ _ _ h => h) HTY.out (fun _ => HBz90.out) ?rz90 ?_
 case rz90 =>
  iterate 3
   refine RG.rW ?_ (fun Z hT => ?_) ?_
   rotate_left
   ·go_simp
    rfl
   simp only [Act.put,lA,lB,lC,lD,lE,lF]
  refine RG.rW (.slice (some ⟨b6,0,none⟩) K cap6) (fun Z hT => ?_) ?_
  ·obtain ⟨x0,x1,x2,x3,x4,x5,x6⟩:=cellsY7 hT.1;obtain ⟨z0,z1,z2,z3,z4⟩:=cellsY5 hT.2;rw [E6.out] at x6
   go_simp
  simp only [Act.put,lA,lB,lC,lD,lE,lF]
  refine RG.rW ?_ (fun Z hT => ?_) ?_
  rotate_left
  ·go_simp
   rfl
  simp only [Act.put,lA,lB,lC,lD,lE,lF]
  refine RG.rW (.int .i64 (c : Int)) (fun Z hT => ?_) ?_
  ·obtain ⟨x0,x1,x2,x3,x4,x5,x6⟩:=cellsY7 hT.1;obtain ⟨z0,z1,z2,z3,z4⟩:=cellsY5 hT.2;rw [E6.out] at x6
   go_simp
  simp only [Act.put,lA,lB,lC,lD,lE,lF]
  iterate 3
   refine RG.rW ?_ (fun Z hT => ?_) ?_
   rotate_left
   ·go_simp
    rfl
   simp only [Act.put,lA,lB,lC,lD,lE,lF]
  refine RG.rW (.slice (some ⟨b6,0,none⟩) K cap6) (fun Z hT => ?_) ?_
  ·obtain ⟨x0,x1,x2,x3,x4,x5,x6⟩:=cellsY7 hT.1;obtain ⟨z0,z1,z2,z3,z4⟩:=cellsY5 hT.2;rw [E6.out] at x6
   go_simp
  simp only [Act.put,lA,lB,lC,lD,lE,lF]
  refine RG.rW ?_ (fun Z hT => ?_) ?_
  rotate_left
  ·go_simp
   rfl
  simp only [Act.put,lA,lB,lC,lD,lE,lF]
  refine RG.rW (.int .i64 (c : Int)) (fun Z hT => ?_) ?_
  ·obtain ⟨x0,x1,x2,x3,x4,x5,x6⟩:=cellsY7 hT.1;obtain ⟨z0,z1,z2,z3,z4⟩:=cellsY5 hT.2;rw [E6.out] at x6
   go_simp
  simp only [Act.put,lA,lB,lC,lD,lE,lF]
  refine RG.rW ?_ (fun Z hT => ?_) ?_
  rotate_left
  ·go_simp
   rfl
  simp only [Act.put,lA,lB,lC,lD,lE,lF]
  refine RG.RunsIf.strong (v:=.slice fa fl fc) (by rfl) (by kernel_rfl) (by rfl) (fun Z hT hS => ?_) ?_
  ·have y6:=keepC hS y6
   go_simp
  simp only [Act.put,lA,lB,lC,lD,lE,lF]
  refine RG.rW ?_ (fun Z hT => ?_) ?_
  rotate_left
  ·go_simp
   rfl
  simp only [Act.put,lA,lB,lC,lD,lE,lF]
  exact RG.RunsIf.nil
 refine RG.wpL_step (i:=15) (by kernel_rfl) (by rfl) (by rfl) (fun KX hK => ?_)
 have HK:=ζ hK
 clear hK
 go_simp
 have hAb : Below X.heap.size X (Yz90.alloc (.cells #[.int .i64 (n : Int)] 3)):=HBz90.out.alloc HBz90.out.size _
 have HAb:=ζ hAb
 have HQc : Hid (∀ j u,([.int .i64 (n : Int)] : List Value)[j]? = some u → (Yz90.alloc (.cells #[.int .i64 (n : Int)] 3)).cell? ((⟨Yz90.heap.size,0,none⟩ : Addr).add j) = some u):=cell_one_new _ _ _
 have HTb:=ζ (And.intro (blk_keep HM.out.blk HAb.out) (blk_keep N1.out HAb.out))
 have HRw:=ζ (own_belowI HR3.out HAb.out)
 refine HK.out _ _ HTb.out (fun _ => HAb.out) ?_
 clear HK KX hAb HBz90 HTY
 generalize Yz90.alloc _ = Yb at *
 generalize Yz90.heap.size = gq at *
 try simp only [Act.put,lA,lB,lC,lD,lE,lF]
 refine RG.wpL_late (i:=16) (by kernel_rfl) (by rfl) (by rfl) (by kernel_rfl) (fun KX hK => ?_)
 have HK:=ζ hK
 clear hK
 obtain ⟨i3,hi3,hz30,hz31,hz32⟩:=info_parts' intinfo
 refine wp_append_at _ _ 24 (by rfl) o.heap.size 3 i3 _ 1 8 Try.underlying24 hi3 hz30 hz31 hz32 rfl (by decide) (.slice fa fl fc) fl ((t.fr c).map (Value.int .i64)) (by rfl) HRw.out ⟨gq,0,none⟩ 1 1 [.int .i64 (n : Int)] (by rfl) rfl HQc.out (by simp [Value.oneCell']) (by unfold maxLen;omega) (by omega) (Nat.le_trans HSo.out HAb.out.size) ?_
 intro uu W5 hown5 hgr5 hat5
 obtain ⟨⟨ua,uc,rfl⟩,hT5,fz,⟨zz,cz⟩,hkm⟩:=HEnd.out Yb uu W5 HAb.out HTb.out hown5 hgr5 hat5
 have HKM:=ζ hkm
 have HT5:=ζ hT5
 clear hown5 hgr5 hat5 hkm hT5 HQc HRw hi3 hz30 hz31 hz32 HTb HAb
 refine HK.out _ _ HT5.out.1 ?_
 clear HK KX
 try simp only [Act.put,lA,lB,lC,lD,lE,lF]
 refine RG.wpL_take (fuel:=1) (a':=?Bz90) [17] (by kernel_rfl) (by kernel_rfl) (fun _ _ _ _ _ h => h) HT5.out.1 (fun h => by cases (show false = true from h)) ?sz90 ?_
 case sz90 =>
  refine RG.rW ?_ (fun Z hT => ?_) ?_
  rotate_left
  ·go_simp
   rfl
  simp only [Act.put,lA,lB,lC,lD,lE,lF]
  exact RG.RunsIf.nil
 refine RG.wpL_late (i:=18) (by kernel_rfl) (by rfl) (by rfl) (by kernel_rfl) (fun KX hK => ?_)
 have HK:=ζ hK
 clear hK
 go_simp
 refine HK.out _ _ HT5.out.2 ?_
 clear HK KX cz fz HT5
 refine RG.wpL_done (by kernel_rfl) ?_ _
 refine NoPanic.normal ?_
 go_wp2
 go_end0
 exact ⟨rfl,HKM.out⟩
theorem flat_len (l : List Int) (n : Nat) : (l.flatMap (fun f => Tr.lnk f n)).length ≤ l.length:=by
 induction l with
 | nil => simp
 | cons x l ih =>
  rw [List.flatMap_cons,List.length_append,List.length_cons];have : (Tr.lnk x n).length ≤ 1:=by unfold Tr.lnk;split <;> simp
  omega
theorem flat_more (l : List Int) (n k : Nat) (h : k < l.length) : (l.take (k + 1)).flatMap (fun f => Tr.lnk f n) = (l.take k).flatMap (fun f => Tr.lnk f n) ++ Tr.lnk (l.getD k 0) n:=by
 rw [List.take_add_one,List.getD_eq_getElem?_getD,List.getElem?_eq_getElem h,List.flatMap_append]
 simp
theorem ptk8 {o : World} {g R M K rc : Nat} {ra : Option Addr} {t : Lt} {v : Ow → Value} (n c : Nat) (who va : Int) (sh : Bool) (w : World) (h : KM o w g ra rc R M K t v) (hc : c < K) (hs : (t.fr c).length ≤ 40000) (hl : t.ed.length ≤ 3999900000) :
  Calls Try.prog 50 #[.pointer (some ⟨g,0,none⟩),.int .i64 (n : Int),.agg #[.int .i64 who,.int .i64 8,.int .i64 (c : Int),.int .i64 va,.bool sh]] w fun e w' => e = .returned (.tuple #[]) ∧ ∃ v',KM o w' g ra rc R M K { t with ed:=t.ed ++ (t.fr c).flatMap (fun f => Tr.lnk f n),fr:=put t.fr c [] } v':=by
 obtain ⟨POST,hP⟩ : ∃ Q : Ending → World → Prop,Q = fun e w' => e = .returned (.tuple #[]) ∧ ∃ v',KM o w' g ra rc R M K { t with ed:=t.ed ++ (t.fr c).flatMap (fun f => Tr.lnk f n),fr:=put t.fr c [] } v':=⟨_,rfl⟩
 have HP:=ζ hP
 rw [← hP]
 clear hP
 have hA0 : Below w.heap.size w (w.alloc (.cells #[.int .i64 who,.int .i64 8,.int .i64 (c : Int),.int .i64 va,.bool sh] 39)):=(Below.refl w.heap.size w).alloc (Nat.le_refl _) _
 have hm:=h.below hA0
 have HM:=ζ hm
 obtain ⟨b6,cap6,e6,y6,_⟩:=hm.ogAt c hc
 obtain ⟨fa,fc,ef,_⟩:=hm.frIs c
 rw [ef] at y6
 have E6:=ζ e6
 have hc0 : (0 : Int) ≤ (c : Int):=by omega
 have hc1 : (c : Int) < (K : Int):=by omega
 have HRd : Hid (∀ W k v3,KM o W g ra rc R M K { t with ed:=t.ed ++ ((t.fr c).take k).flatMap (fun f => Tr.lnk f n) } v3 → (∀ i,i ≠ .ed → v3 i = v i) → k < (t.fr c).length → ∃ fb fo,fa = some ⟨fb,fo,none⟩ ∧ W.cell? ⟨fb,fo + k,none⟩ = some (.int .i64 ((t.fr c).getD k 0))):=fun W k v3 hm3 hv3 hk => by
  obtain ⟨a',c',e',hn⟩:=hm3.frIs c
  rw [hv3 _ (by intro h;cases h),ef] at e'
  injection e' with e1 _ _
  subst e1;rcases hn with h2 | ⟨b,off,e,hc2⟩
  ·rw [show t.fr c = [] from h2] at hk;simp at hk
  ·exact ⟨b,off,e,hc2 k hk⟩
 have HLk : Hid (∀ W k v3,KM o W g ra rc R M K { t with ed:=t.ed ++ ((t.fr c).take k).flatMap (fun f => Tr.lnk f n) } v3 → (∀ i,i ≠ .ed → v3 i = v i) → k < (t.fr c).length → Calls Try.prog 49 #[.pointer (some ⟨g,0,none⟩),.int .i64 ((t.fr c).getD k 0),.int .i64 (n : Int)] W fun e w' => e = .returned (.tuple #[]) ∧ (∃ v',KM o w' g ra rc R M K { t with ed:=t.ed ++ ((t.fr c).take (k + 1)).flatMap (fun f => Tr.lnk f n) } v' ∧ ∀ i,i ≠ .ed → v' i = v i) ∧ (∀ (p : Nat) (cs : Array Value) (ty : TypeId) (fr : Nat × Nat),W.heap[p]? = some (.cells cs ty fr) → ty ≠ 109 → ty ≠ 116 → w'.heap[p]? = some (.cells cs ty fr))):=fun W k v3 hm3 hv3 hk => by
  have hb : (t.ed ++ ((t.fr c).take k).flatMap (fun f => Tr.lnk f n)).length ≤ 4000000000:=by
   rw [List.length_append];have h1:=flat_len ((t.fr c).take k) n
   rw [List.length_take] at h1;omega
  refine (plink ((t.fr c).getD k 0) n W hm3 hb).mono ?_
  rintro e w' ⟨rfl,⟨v4,h4,h5⟩,h6⟩
  refine ⟨rfl,⟨v4,?_,fun i hi => by rw [h5 i hi,hv3 i hi]⟩,h6⟩
  rw [flat_more _ _ _ hk,← List.append_assoc];exact h4
 have HZe : Hid (∀ W v3,KM o W g ra rc R M K { t with ed:=t.ed ++ ((t.fr c).take (t.fr c).length).flatMap (fun f => Tr.lnk f n) } v3 → (∀ i,i ≠ .ed → v3 i = v i) → (v3 .og = .slice (some ⟨b6,0,none⟩) K cap6) ∧ ∀ Y,Below W.heap.size W Y → (∃ z,Y.cell? ⟨b6,c,none⟩ = some z) ∧ Y.frozen? ⟨b6,c,none⟩ = false ∧ KM o (Y.setCell ⟨b6,c,none⟩ (.slice none 0 0)) g ra rc R M K { t with ed:=t.ed ++ (t.fr c).flatMap (fun f => Tr.lnk f n),fr:=put t.fr c [] } (vpt v3 (.fr c) (.slice none 0 0))):=fun W v3 hm3 hv3 => by
  have q1 : v3 .og = .slice (some ⟨b6,0,none⟩) K cap6:=by rw [hv3 _ (by intro h;cases h)];exact e6
  refine ⟨q1,fun Y hY => ?_⟩
  have hy:=hm3.below hY
  obtain ⟨b',cap',e',y',f'⟩:=hy.ogAt c hc
  rw [q1] at e'
  injection e' with e1 _ _
  injection e1 with e1
  injection e1 with e1
  subst e1;refine ⟨⟨_,y'⟩,f',?_⟩
  have:=hy.nil_fr c q1
  rw [List.take_length] at this;exact this
 have HM0 : Hid (KM o (w.alloc (.cells #[.int .i64 who,.int .i64 8,.int .i64 (c : Int),.int .i64 va,.bool sh] 39)) g ra rc R M K { t with ed:=t.ed ++ ((t.fr c).take 0).flatMap (fun f => Tr.lnk f n) } v):=by
  show KM _ _ _ _ _ _ _ _ _ _
  rw [List.take_zero,List.flatMap_nil,List.append_nil];exact hm
 obtain ⟨fl,hfl⟩ : ∃ fl,(t.fr c).length = fl:=⟨_,rfl⟩
 rw [hfl] at y6 hs HRd HLk HZe
 clear hfl hA0 h hm e6 ef
 have hA : Below w.heap.size w (w.alloc (.cells #[.int .i64 who,.int .i64 8,.int .i64 (c : Int),.int .i64 va,.bool sh] 39)):=(Below.refl _ _).alloc (Nat.le_refl _) _
 have N1 : Hid ((w.alloc (.cells #[.int .i64 who,.int .i64 8,.int .i64 (c : Int),.int .i64 va,.bool sh] 39)).heap[w.heap.size]? = some (.cells #[.int .i64 who,.int .i64 8,.int .i64 (c : Int),.int .i64 va,.bool sh] 39 (0,0))):=heap_alloc_new w _
 have NB:=ζ hA
 clear hA
 go_enter Try.func50,Try.ntmps50
 refine wp_seq_k fun K hK => ?_
 have HK:=ζ hK
 clear hK
 go_wp2
 refine HK.out _ _ ?_
 clear HK K
 generalize w.alloc _ = X at *
 obtain ⟨z0,z1,z2,z3,z4⟩:=cellsY5 N1.out
 go_wp2
 refine wp_region_noPanic ?_
 refine RG.wp_region_L (fun Z => Below X.heap.size X Z) (fun Z => True) [] (by kernel_rfl) ?_
 refine RG.wpL_any fun Yz91 hY => ?_
 have HBz91 : Hid (Below X.heap.size X Yz91):=by rw [hY];exact below_drewN (Below.refl _ _) 1
 clear hY
 refine RG.wpL_takeS (fuel:=0) (a':=?Az91) [0,1,2,3,4,5,6,7,8,9] (by kernel_rfl) (by kernel_rfl) (fun _ _ _ _ _ h => h) trivial (HBz91.out) ?rz91 ?_
 case rz91 =>
  iterate 3
   refine RG.rS ?_ (fun Z hT hS => ?_) ?_
   rotate_left
   ·go_simp
    rfl
   simp only [Act.put,lA,lB,lC,lD,lE,lF]
  refine RG.rS (.slice (some ⟨b6,0,none⟩) K cap6) (fun Z hT hS => ?_) ?_
  ·obtain ⟨x0,x1,x2,x3,x4,x5,x6⟩:=cellsY7 (blk_keep HM.out.blk hS);obtain ⟨z0,z1,z2,z3,z4⟩:=cellsY5 (blk_keep N1.out hS);rw [E6.out] at x6;have y6:=keepC hS y6
   go_simp
  simp only [Act.put,lA,lB,lC,lD,lE,lF]
  refine RG.rS ?_ (fun Z hT hS => ?_) ?_
  rotate_left
  ·go_simp
   rfl
  simp only [Act.put,lA,lB,lC,lD,lE,lF]
  refine RG.rS (.int .i64 (c : Int)) (fun Z hT hS => ?_) ?_
  ·obtain ⟨x0,x1,x2,x3,x4,x5,x6⟩:=cellsY7 (blk_keep HM.out.blk hS);obtain ⟨z0,z1,z2,z3,z4⟩:=cellsY5 (blk_keep N1.out hS);rw [E6.out] at x6;have y6:=keepC hS y6
   go_simp
  simp only [Act.put,lA,lB,lC,lD,lE,lF]
  refine RG.rS ?_ (fun Z hT hS => ?_) ?_
  rotate_left
  ·go_simp
   rfl
  simp only [Act.put,lA,lB,lC,lD,lE,lF]
  refine RG.rS (.slice fa fl fc) (fun Z hT hS => ?_) ?_
  ·obtain ⟨x0,x1,x2,x3,x4,x5,x6⟩:=cellsY7 (blk_keep HM.out.blk hS);obtain ⟨z0,z1,z2,z3,z4⟩:=cellsY5 (blk_keep N1.out hS);rw [E6.out] at x6;have y6:=keepC hS y6
   go_simp
  simp only [Act.put,lA,lB,lC,lD,lE,lF]
  iterate 2
   refine RG.rS ?_ (fun Z hT hS => ?_) ?_
   rotate_left
   ·go_simp
    rfl
   simp only [Act.put,lA,lB,lC,lD,lE,lF]
  exact RG.RunsS.nil
 refine RG.wpL_done (by kernel_rfl) ?_ _
 refine NoPanic.normal ?_
 have HMy:=ζ (HM0.out.below HBz91.out)
 have N2:=ζ (blk_keep N1.out HBz91.out)
 clear HM HM0 N1 NB HBz91 y6 z0 z1 z2 z3 z4
 go_wp2
 go_loopw [86] (fun j wr => ∃ (k : Nat) (v3 : Ow → Value),k ≤ fl ∧ j = .int .i64 (k : Int) ∧ Hid (KM o wr g ra rc R M K { t with ed:=t.ed ++ ((t.fr c).take k).flatMap (fun f => Tr.lnk f n) } v3) ∧ Hid (∀ i,i ≠ .ed → v3 i = v i) ∧ Hid (wr.heap[w.heap.size]? = some (.cells #[.int .i64 who,.int .i64 8,.int .i64 (c : Int),.int .i64 va,.bool sh] 39 (0,0)))) (fun j wr => fl - (intOf j).toNat)
 case atStart => exact ⟨0,v,Nat.zero_le _,rfl,HMy,ζ (fun _ _ => rfl),N2⟩
 case round =>
  clear HMy N2;obtain ⟨k,v3,hk,rfl,HM3,HV3,N3⟩:=hrel
  by_cases hlt : k < fl
  ·have hk1 : (k : Int) < (fl : Int):=by omega
   have hk0 : (0 : Int) ≤ (k : Int):=by omega
   obtain ⟨fb,fo,hfa,yk⟩:=HRd.out wr k v3 HM3.out HV3.out hlt
   subst hfa;have HLT:=ζ hlt
   have HC:=ζ (HLk.out wr k v3 HM3.out HV3.out hlt)
   clear hlt;generalize (t.fr c).getD k 0 = xk at *;go_wp2_with fail
   refine HC.out.mono ?_
   rintro e1 W1 ⟨rfl,⟨v4,hm4,hv4⟩,hk4⟩
   have HM4:=ζ hm4
   have HV4:=ζ hv4
   have N4:=ζ (hk4 _ _ _ _ N3.out (by decide) (by decide))
   clear hm4 hv4 hk4 HC;go_wp2;go_roundw
   case rel => exact ⟨k + 1,v4,HLT.out,by go_num,HM4,HV4,N4⟩
   case measure => simp [intOf];have:=HLT.out;omega
  ·obtain rfl : k = fl:=by omega
   have hk1 : ¬ (k : Int) < (k : Int):=by omega
   obtain ⟨q6,hend⟩:=HZe.out wr v3 HM3.out HV3.out
   have E7:=ζ q6
   have HEnd:=ζ hend
   clear q6 hend HRd HLk HZe;go_wp2;refine wp_region_noPanic ?_
   refine RG.wp_region_L (fun Z => Below wr.heap.size wr Z) (fun Z => True) [7] (by kernel_rfl) ?_
   refine RG.wpL_any fun Yz92 hY => ?_
   have HBz92 : Hid (Below wr.heap.size wr Yz92):=by rw [hY];exact below_drewN (Below.refl _ _) 1
   clear hY;refine RG.wpL_takeS (fuel:=1) (a':=?Az92) [0,1,2,3,4,5,6] (by kernel_rfl) (by kernel_rfl) (fun _ _ _ _ _ h => h) trivial (HBz92.out) ?rz92 ?_
   case rz92 =>
    iterate 3
     refine RG.rS ?_ (fun Z hT hS => ?_) ?_
     rotate_left
     ·go_simp
      rfl
     simp only [Act.put,lA,lB,lC,lD,lE,lF]
    refine RG.rS (.slice (some ⟨b6,0,none⟩) K cap6) (fun Z hT hS => ?_) ?_
    ·obtain ⟨x0,x1,x2,x3,x4,x5,x6⟩:=cellsY7 (blk_keep HM3.out.blk hS);obtain ⟨z0,z1,z2,z3,z4⟩:=cellsY5 (blk_keep N3.out hS);rw [E7.out] at x6
     go_simp
    simp only [Act.put,lA,lB,lC,lD,lE,lF]
    refine RG.rS ?_ (fun Z hT hS => ?_) ?_
    rotate_left
    ·go_simp
     rfl
    simp only [Act.put,lA,lB,lC,lD,lE,lF]
    refine RG.rS (.int .i64 (c : Int)) (fun Z hT hS => ?_) ?_
    ·obtain ⟨x0,x1,x2,x3,x4,x5,x6⟩:=cellsY7 (blk_keep HM3.out.blk hS);obtain ⟨z0,z1,z2,z3,z4⟩:=cellsY5 (blk_keep N3.out hS);rw [E7.out] at x6
     go_simp
    simp only [Act.put,lA,lB,lC,lD,lE,lF]
    refine RG.rS ?_ (fun Z hT hS => ?_) ?_
    rotate_left
    ·go_simp
     rfl
    simp only [Act.put,lA,lB,lC,lD,lE,lF]
    exact RG.RunsS.nil
   obtain ⟨⟨zz,cz⟩,fz,hNM⟩:=HEnd.out Yz92 HBz92.out
   have HNM:=ζ hNM
   clear hNM;refine RG.wpL_late (i:=7) (by kernel_rfl) (by rfl) (by rfl) (by kernel_rfl) (fun KX hK => ?_)
   have HK:=ζ hK
   clear hK;go_simp;refine HK.out _ _ trivial ?_
   clear HK KX cz fz;refine RG.wpL_done (by kernel_rfl) ?_ _
   refine NoPanic.normal ?_
   go_wp2;go_end0
   rw [HP.out];exact ⟨rfl,_,HNM.out⟩
end LW
end Go.Proofs.Ytfbnakmmmphedaa
namespace Go.Proofs.Ytfbnakmmmphedaa
open Go
namespace LW
open Mc Tr
def ltF (s : Syst) (l : List Ev) (n : Nat) : Lt:=⟨edF s l n,fun r => laF l n (r : Int),fun c => snI l n (c : Int),fun c => tkI l n (c : Int),fun c => shF l n (c : Int),fun c => frI l n (c : Int)⟩
theorem frI_len (l : List Ev) (n : Nat) (c : Int) : (frI l n c).length ≤ n:=by
 induction n with
 | zero => simp [frI]
 | succ n ih =>
  rw [frI];split
  ·simp;omega
  ·split
   ·simp
   ·omega
theorem lnk_len (f : Int) (n : Nat) : (lnk f n).length ≤ 1:=by unfold lnk;split <;> simp
theorem opE_len (s : Syst) (l : List Ev) (n : Nat) : (opE s l n).length ≤ n + 1:=by
 unfold opE
 dsimp only
 split
 ·split
  ·have:=lnk_len ((tkI l n (ev l n).a).getD (((snI l n (ev l n).a).length : Int) - s.rooms.getD (ev l n).a.toNat 0).toNat 0) n
   omega
  ·simp
 ·split
  ·split
   ·have:=lnk_len (shF l n (ev l n).a) n;omega
   ·have:=lnk_len ((snI l n (ev l n).a).getD (tkI l n (ev l n).a).length 0) n;omega
  ·split
   ·have h1:=flat_len (frI l n (ev l n).a) n
    have h2:=frI_len l n (ev l n).a
    omega
   ·simp
theorem edF_len (s : Syst) (l : List Ev) (n : Nat) (hn : n ≤ 40000) : (edF s l n).length ≤ 40002 * n:=by
 induction n with
 | zero => simp [edF]
 | succ n ih =>
  have h:=ih (by omega)
  rw [edF,List.length_append,List.length_append];have h1:=lnk_len (laF l n (ev l n).who) n
  have h2:=opE_len s l n
  omega
def ltM (s : Syst) (l : List Ev) (n w : Nat) : Lt:={ ltF s l n with ed:=edF s l n ++ lnk (laF l n (w : Int)) n,la:=put (fun r => laF l n (r : Int)) w (n : Int) }
theorem lt_ext {a b : Lt} (h1 : a.ed = b.ed) (h2 : ∀ r,a.la r = b.la r) (h3 : ∀ c,a.sn c = b.sn c) (h4 : ∀ c,a.tk c = b.tk c) (h5 : ∀ c,a.sh c = b.sh c) (h6 : ∀ c,a.fr c = b.fr c) : a = b:=by
 cases a
 cases b
 simp at h1 h2 h3 h4 h5 h6
 simp [h1,funext h2,funext h3,funext h4,funext h5,funext h6]
section
variable {s : Syst} {l : List Ev} {n w : Nat}
theorem la_put (hw : (ev l n).who = (w : Int)) (h14 : ¬ ((ev l n).op = 14 ∧ 0 < (ev l n).value)) (r : Nat) : put (fun r => laF l n (r : Int)) w (n : Int) r = laF l (n + 1) (r : Int):=by
 rw [laF,if_neg (fun h => h14 ⟨h.1,h.2.1⟩),hw]
 unfold put
 by_cases h : r = w
 ·rw [if_pos h,if_pos (by rw [h])]
 ·rw [if_neg h,if_neg (fun e => h (by omega))]
theorem sn_same (h : (ev l n).op ≠ 5) (c : Int) : snI l n c = snI l (n + 1) c:=by rw [snI,if_neg (fun e => h e.1)]
theorem tk_same (h : ¬ ((ev l n).op = 6 ∧ (ev l n).shut = false)) (c : Int) : tkI l n c = tkI l (n + 1) c:=by rw [tkI,if_neg (fun e => h ⟨e.1,e.2.1⟩)]
theorem sh_same (h : (ev l n).op ≠ 7) (c : Int) : shF l n c = shF l (n + 1) c:=by rw [shF,if_neg (fun e => h e.1)]
theorem fr_same (h : (ev l n).op ≠ 9) (h8 : (ev l n).op ≠ 8) (c : Int) : frI l n c = frI l (n + 1) c:=by rw [frI,if_neg (fun e => h e.1),if_neg (fun e => h8 e.1)]
theorem op_none (h5 : (ev l n).op ≠ 5) (h6 : (ev l n).op ≠ 6) (h8 : (ev l n).op ≠ 8) : opE s l n = []:=by
 unfold opE
 dsimp only
 rw [if_neg h5,if_neg h6,if_neg h8]
theorem next_none (hw : (ev l n).who = (w : Int)) (h14 : ¬ ((ev l n).op = 14 ∧ 0 < (ev l n).value)) (h5 : (ev l n).op ≠ 5) (h6 : (ev l n).op ≠ 6) (h7 : (ev l n).op ≠ 7) (h9 : (ev l n).op ≠ 9) (h8 : (ev l n).op ≠ 8) : ltM s l n w = ltF s l (n + 1):=by
 refine lt_ext ?_ (la_put hw h14) (fun c => sn_same h5 c) (fun c => tk_same (fun h => h6 h.1) c) (fun c => sh_same h7 c) (fun c => fr_same h9 h8 c)
 show _ = edF s l (n + 1)
 rw [edF,op_none h5 h6 h8,List.append_nil,hw]
 rfl
theorem next14 (hw : (ev l n).who = (w : Int)) (h14 : (ev l n).op = 14) (r : Nat) (hr : (ev l n).value = (r : Int)) (h0 : 0 < r) : { ltM s l n w with la:=put (ltM s l n w).la r (n : Int) } = ltF s l (n + 1):=by
 refine lt_ext ?_ (fun q => ?_) (fun c => sn_same (by omega) c) (fun c => tk_same (fun h => by omega) c) (fun c => sh_same (by omega) c) (fun c => fr_same (by omega) (by omega) c)
 ·show _ = edF s l (n + 1)
  rw [edF,op_none (by omega) (by omega) (by omega),List.append_nil,hw]
  rfl
 ·show put (put (fun r => laF l n (r : Int)) w (n : Int)) r (n : Int) q = laF l (n + 1) (q : Int)
  rw [laF,hw,hr];unfold put;by_cases h : q = r
  ·rw [if_pos h,if_pos ⟨h14,by omega,by rw [h]⟩]
  ·rw [if_neg h,if_neg (c:=(ev l n).op = 14 ∧ 0 < (r : Int) ∧ (r : Int) = (q : Int)) (fun e => h (by omega))]
   by_cases h2 : q = w
   ·rw [if_pos h2,if_pos (by rw [h2])]
   ·rw [if_neg h2,if_neg (fun e => h2 (by omega))]
theorem next5 (hw : (ev l n).who = (w : Int)) (h5 : (ev l n).op = 5) (c : Nat) (hc : (ev l n).a = (c : Int)) : { ltM s l n w with ed:=(ltM s l n w).ed ++ opE s l n,sn:=put (ltM s l n w).sn c ((ltM s l n w).sn c ++ [(n : Int)]) } = ltF s l (n + 1):=by
 refine lt_ext ?_ (la_put hw (fun h => by omega)) (fun q => ?_) (fun c => tk_same (fun h => by omega) c) (fun c => sh_same (by omega) c) (fun c => fr_same (by omega) (by omega) c)
 ·show _ = edF s l (n + 1)
  rw [edF,hw];rfl
 ·show put (fun c => snI l n (c : Int)) c (snI l n (c : Int) ++ [(n : Int)]) q = snI l (n + 1) (q : Int)
  rw [snI,hc];unfold put;by_cases h : q = c
  ·rw [if_pos h,if_pos ⟨h5,by rw [h]⟩,h]
  ·rw [if_neg h,if_neg (fun e => h (by omega))]
theorem next6v (hw : (ev l n).who = (w : Int)) (h6 : (ev l n).op = 6) (hs : (ev l n).shut = false) (c : Nat) (hc : (ev l n).a = (c : Int)) : { ltM s l n w with ed:=(ltM s l n w).ed ++ opE s l n,tk:=put (ltM s l n w).tk c ((ltM s l n w).tk c ++ [(n : Int)]) } = ltF s l (n + 1):=by
 refine lt_ext ?_ (la_put hw (fun h => by omega)) (fun c => sn_same (by omega) c) (fun q => ?_) (fun c => sh_same (by omega) c) (fun c => fr_same (by omega) (by omega) c)
 ·show _ = edF s l (n + 1)
  rw [edF,hw];rfl
 ·show put (fun c => tkI l n (c : Int)) c (tkI l n (c : Int) ++ [(n : Int)]) q = tkI l (n + 1) (q : Int)
  rw [tkI,hc];unfold put;by_cases h : q = c
  ·rw [if_pos h,if_pos ⟨h6,hs,by rw [h]⟩,h]
  ·rw [if_neg h,if_neg (fun e => h (by omega))]
theorem next6s (hw : (ev l n).who = (w : Int)) (h6 : (ev l n).op = 6) (hs : (ev l n).shut = true) : { ltM s l n w with ed:=(ltM s l n w).ed ++ opE s l n } = ltF s l (n + 1):=by
 refine lt_ext ?_ (la_put hw (fun h => by omega)) (fun c => sn_same (by omega) c) (fun c => tk_same (fun h => by rw [hs] at h;cases h.2) c) (fun c => sh_same (by omega) c) (fun c => fr_same (by omega) (by omega) c)
 show _ = edF s l (n + 1)
 rw [edF,hw]
 rfl
theorem next7 (hw : (ev l n).who = (w : Int)) (h7 : (ev l n).op = 7) (c : Nat) (hc : (ev l n).a = (c : Int)) : { ltM s l n w with sh:=put (ltM s l n w).sh c (if (ltM s l n w).sh c = -1 then (n : Int) else (ltM s l n w).sh c) } = ltF s l (n + 1):=by
 refine lt_ext ?_ (la_put hw (fun h => by omega)) (fun c => sn_same (by omega) c) (fun c => tk_same (fun h => by omega) c) (fun q => ?_) (fun c => fr_same (by omega) (by omega) c)
 ·show _ = edF s l (n + 1)
  rw [edF,op_none (by omega) (by omega) (by omega),List.append_nil,hw]
  rfl
 ·show put (fun c => shF l n (c : Int)) c (if shF l n (c : Int) = -1 then (n : Int) else shF l n (c : Int)) q = shF l (n + 1) (q : Int)
  rw [shF,hc];unfold put;by_cases h : q = c
  ·rw [if_pos h,h]
   by_cases h1 : shF l n (c : Int) = -1
   ·rw [if_pos h1,if_pos ⟨h7,rfl,h1⟩]
   ·rw [if_neg h1,if_neg (fun e => h1 e.2.2)]
  ·rw [if_neg h,if_neg (fun e => h (by omega))]
theorem next9 (hw : (ev l n).who = (w : Int)) (h9 : (ev l n).op = 9) (c : Nat) (hc : (ev l n).a = (c : Int)) : { ltM s l n w with fr:=put (ltM s l n w).fr c ((ltM s l n w).fr c ++ [(n : Int)]) } = ltF s l (n + 1):=by
 refine lt_ext ?_ (la_put hw (fun h => by omega)) (fun c => sn_same (by omega) c) (fun c => tk_same (fun h => by omega) c) (fun c => sh_same (by omega) c) (fun q => ?_)
 ·show _ = edF s l (n + 1)
  rw [edF,op_none (by omega) (by omega) (by omega),List.append_nil,hw]
  rfl
 ·show put (fun c => frI l n (c : Int)) c (frI l n (c : Int) ++ [(n : Int)]) q = frI l (n + 1) (q : Int)
  rw [frI,hc];unfold put;by_cases h : q = c
  ·rw [if_pos h,if_pos ⟨h9,by rw [h]⟩,h]
  ·rw [if_neg h,if_neg (fun e => h (by omega)),if_neg (fun e => h (by omega))]
theorem next8 (hw : (ev l n).who = (w : Int)) (h8 : (ev l n).op = 8) (c : Nat) (hc : (ev l n).a = (c : Int)) : { ltM s l n w with ed:=(ltM s l n w).ed ++ ((ltM s l n w).fr c).flatMap (fun f => lnk f n),fr:=put (ltM s l n w).fr c [] } = ltF s l (n + 1):=by
 refine lt_ext ?_ (la_put hw (fun h => by omega)) (fun c => sn_same (by omega) c) (fun c => tk_same (fun h => by omega) c) (fun c => sh_same (by omega) c) (fun q => ?_)
 ·show _ = edF s l (n + 1)
  have e : opE s l n = (frI l n (c : Int)).flatMap (fun f => lnk f n):=by
   unfold opE;dsimp only
   rw [if_neg (by omega),if_neg (by omega),if_pos h8,hc]
  rw [edF,hw,e];rfl
 ·show put (fun c => frI l n (c : Int)) c [] q = frI l (n + 1) (q : Int)
  rw [frI,hc];unfold put;by_cases h : q = c
  ·rw [if_pos h,if_neg (fun e => by omega),if_pos ⟨h8,by rw [h]⟩]
  ·rw [if_neg h,if_neg (fun e => h (by omega)),if_neg (fun e => h (by omega))]
end
end LW
end Go.Proofs.Ytfbnakmmmphedaa
namespace Go.Proofs.Ytfbnakmmmphedaa
open Go.RowKit
namespace LW
open Mc
theorem ptake {o : World} {g R K rc : Nat} {ra : Option Addr} {v : Ow → Value} {s : Syst} {l : List Ev} (n wn : Nat) (who op a va : Int) (sh : Bool) (w : World) (he : Tr.ev l n = ⟨who,op,a,va,sh⟩) (hw : who = (wn : Int)) (h : KM o w g ra rc R s.rooms.length K (ltM s l n wn) v) (ho : Ok s) (hf : Tr.FitE s (l.take n) (Tr.ev l n)) (hn : n < l.length) (hL : l.length ≤ 40000) (hR : R = Tr.rnC l) (hK : (K : Int) = s.locks) (hr : NR o ra s.rooms) :
  Calls Try.prog 50 #[.pointer (some ⟨g,0,none⟩),.int .i64 (n : Int),.agg #[.int .i64 who,.int .i64 op,.int .i64 a,.int .i64 va,.bool sh]] w fun e w' => e = .returned (.tuple #[]) ∧ ∃ v',KM o w' g ra rc R s.rooms.length K (ltF s l (n + 1)) v':=by
 have hw' : (Tr.ev l n).who = (wn : Int):=by rw [he];exact hw
 have eop : (Tr.ev l n).op = op:=by rw [he]
 have ea : (Tr.ev l n).a = a:=by rw [he]
 have eva : (Tr.ev l n).value = va:=by rw [he]
 have esh : (Tr.ev l n).shut = sh:=by rw [he]
 have hed : (ltM s l n wn).ed.length ≤ 3999900000:=by
  show (Tr.edF s l n ++ Tr.lnk _ n).length ≤ _
  have h1:=edF_len s l n (by omega)
  have h2:=lnk_len (Tr.laF l n (wn : Int)) n
  rw [List.length_append];omega
 have hsn : ∀ c : Nat,((ltM s l n wn).sn c).length ≤ 40000:=fun c => by
  show (Tr.snI l n (c : Int)).length ≤ _
  rw [Tr.snI_len l n (by omega)]
  have:=Tr.snC_len (l.take n) (c : Int)
  rw [List.length_take] at this;omega
 have htk : ∀ c : Nat,((ltM s l n wn).tk c).length ≤ 40000:=fun c => by
  show (Tr.tkI l n (c : Int)).length ≤ _
  rw [Tr.tkI_len l n (by omega)]
  have:=Tr.tkC_len (l.take n) (c : Int)
  rw [List.length_take] at this;omega
 have hfr : ∀ c : Nat,((ltM s l n wn).fr c).length ≤ 40000:=fun c => by
  have:=frI_len l n (c : Int)
  show (Tr.frI l n (c : Int)).length ≤ _
  omega
 have hfa:=hf.a
 rw [eop,ea] at hfa
 by_cases h14 : op = 14 ∧ 0 < va
 ·obtain ⟨rfl,hv0⟩:=h14
  obtain ⟨r,rfl⟩ : ∃ r : Nat,va = (r : Int):=⟨va.toNat,by omega⟩
  have hst:=hf.st eop
  rw [eva] at hst;have hm : Tr.rnC (l.take (n + 1)) ≤ Tr.rnC l:=by
   have:=Tr.rnC_mono l (show n + 1 ≤ l.length by omega) (Nat.le_refl _)
   rw [List.take_length] at this;exact this
  rw [Tr.take_snoc l n hn,Tr.rnC_snoc,if_pos ⟨eop,by show (Tr.ev l n).value ≠ 0;omega⟩] at hm
  have:=ptk14 n r who a sh w h (by omega) (by omega)
  rw [next14 hw' eop r eva (by omega)] at this
  exact this
 by_cases h5 : op = 5
 ·subst h5
  obtain ⟨a0,a1⟩:=hfa _ rfl
  obtain ⟨c,rfl⟩ : ∃ c : Nat,a = (c : Int):=⟨a.toNat,by omega⟩
  have hrm:=ho.rm c (by omega)
  have:=ptk5 n c who va sh w h (by omega) s.rooms hr rfl _ rfl (by omega) (by omega) (hsn c) (htk c) (by omega) (Tr.opE s l n) (by
   unfold Tr.opE
   dsimp only
   rw [if_pos eop,ea,Int.toNat_natCast];rfl)
  rw [next5 hw' eop c ea] at this;exact this
 by_cases h6 : op = 6
 ·subst h6
  obtain ⟨a0,a1⟩:=hfa _ rfl
  obtain ⟨c,rfl⟩ : ∃ c : Nat,a = (c : Int):=⟨a.toNat,by omega⟩
  cases sh with
  | true =>
   have:=ptk6s n c who va w h (by omega) (by omega)
   have e1 : Tr.lnk ((ltM s l n wn).sh c) n = Tr.opE s l n:=by
    unfold Tr.opE
    dsimp only
    rw [if_neg (by omega),if_pos eop,if_pos esh,ea]
    rfl
   rw [e1,next6s hw' eop esh] at this;exact this
  | false =>
   have hlt:=hf.tk eop esh
   rw [ea,← Tr.snI_len l n (by omega),← Tr.tkI_len l n (by omega)] at hlt
   have:=ptk6v n c who va w h (by omega) (by omega) (hsn c) hlt _ rfl
   have e1 : Tr.lnk (((ltM s l n wn).sn c).getD ((ltM s l n wn).tk c).length 0) n = Tr.opE s l n:=by
    unfold Tr.opE
    dsimp only
    rw [if_neg (by omega),if_pos eop,if_neg (by rw [esh];intro h;cases h),ea]
    rfl
   rw [e1,next6v hw' eop esh c ea] at this;exact this
 by_cases h7 : op = 7
 ·subst h7
  obtain ⟨a0,a1⟩:=hfa _ rfl
  obtain ⟨c,rfl⟩ : ∃ c : Nat,a = (c : Int):=⟨a.toNat,by omega⟩
  have:=ptk7 n c who va sh w h (by omega) _ rfl
  rw [next7 hw' eop c ea] at this;exact this
 by_cases h9 : op = 9
 ·subst h9
  obtain ⟨a0,a1⟩:=hfa _ rfl
  obtain ⟨c,rfl⟩ : ∃ c : Nat,a = (c : Int):=⟨a.toNat,by omega⟩
  have:=ptk9 n c who va sh w h (by omega) (hfr c)
  rw [next9 hw' eop c ea] at this;exact this
 by_cases h8 : op = 8
 ·subst h8
  obtain ⟨a0,a1⟩:=hfa _ rfl
  obtain ⟨c,rfl⟩ : ∃ c : Nat,a = (c : Int):=⟨a.toNat,by omega⟩
  have:=ptk8 n c who va sh w h (by omega) (hfr c) hed
  rw [next8 hw' eop c ea] at this;exact this
 have:=ptkN n who op a va sh w h h14 h5 h6 h7 h9 h8
 rw [next_none hw' (by rw [eop,eva];exact h14) (by rw [eop];exact h5) (by rw [eop];exact h6) (by rw [eop];exact h7) (by rw [eop];exact h9) (by rw [eop];exact h8)] at this
 exact this
end LW
end Go.Proofs.Ytfbnakmmmphedaa
namespace Go.Proofs.Ytfbnakmmmphedaa
open Go.RowKit
namespace LW
open Mc
def PNew : Prop:=∀ (s : Syst) (pa : Option Addr) (pc : Nat) (ra : Option Addr) (rc : Nat) (la : Option Addr) (lc : Nat) (l : List Ev) (w : World),SyI w s pa ra → Ok s → Tr.rnC l ≤ 512 → Calls Try.prog 48 #[.agg #[.slice pa s.progs.length pc,.slice ra s.rooms.length rc,.int .i64 s.groups,.int .i64 s.locks,.int .i64 s.cells,.slice la l.length lc,.int .i64 (Tr.rnC l : Int)]] w fun e w' => ∃ g v,e = .returned (.pointer (some ⟨g,0,none⟩)) ∧ KM w w' g ra rc (Tr.rnC l) s.rooms.length s.locks.toNat (ltF s l 0) v
def Ord (l : List (Int × Int)) : Prop:=l.Pairwise (fun a b => a.2 < b.2 ∨ (a.2 = b.2 ∧ a.1 < b.1))
def PInO : Prop:=∀ (B : Nat) (v : Value) (ed : List (Int × Int)) (w : World),w.ownsRow B 109 2 v ed.length (edC ed) → ed.length ≤ 4000000000 → B ≤ w.heap.size → Calls Try.prog 51 #[v] w fun e w' => ∃ v' ed',e = .returned v' ∧ w'.ownsRow B 109 2 v' ed'.length (edC ed') ∧ Ord ed' ∧ (∀ x,x ∈ ed' ↔ x ∈ ed) ∧ Below B w w'
def LnQ (w : World) (s : Syst) (l : List Ev) : Ending → World → Prop:=fun e w' => ∃ v' ed',e = .returned v' ∧ w'.ownsRow w.heap.size 109 2 v' ed'.length (edC ed') ∧ Ord ed' ∧ (∀ x,x ∈ ed' ↔ x ∈ Tr.edF s l l.length) ∧ Below w.heap.size w w'
theorem own_baseL {W : World} {B B' n k : Nat} {t : TypeId} {v : Value} {ys : List Value} (h : W.ownsRow B t k v n ys) (hb : B' ≤ B) : W.ownsRow B' t k v n ys:=by
 refine ⟨h.1,?_⟩
 rcases h.2 with hn | ⟨g,cap,cur,e,hB,rest⟩
 ·exact .inl hn
 ·exact .inr ⟨g,cap,cur,e,Nat.le_trans hb hB,rest⟩
theorem rn_le {s : Syst} {l : List Ev} {n : Nat} (hg : Tr.Gd s l n) (hn : n ≤ l.length) : Tr.rnC (l.take n) ≤ 512:=by
 induction n with
 | zero => simp [Tr.rnC]
 | succ n ih =>
  have h:=ih (fun j hj => hg j (by omega)) (by omega)
  rw [Tr.take_snoc l n hn,Tr.rnC_snoc];split
  ·rename_i h2
   have h3:=(hg n (by omega)).st h2.1
   have h4 : (l.getD n Tr.e0).value ≠ 0:=h2.2
   omega
  ·omega
theorem plinksW (hN : PNew) (hI : PInO) (s : Syst) (pa : Option Addr) (pc : Nat) (ra : Option Addr) (rc : Nat) (la : Option Addr) (lc : Nat) (l : List Ev) (w : World) (hs : SyI w s pa ra) (hl : EvI w la lc l) (ho : Ok s) (hg : Tr.Gd s l l.length) (hL : l.length ≤ 40000) :
  Calls Try.prog 34 #[.agg #[.slice pa s.progs.length pc,.slice ra s.rooms.length rc,.int .i64 s.groups,.int .i64 s.locks,.int .i64 s.cells,.slice la l.length lc,.int .i64 (Tr.rnC l : Int)]] w (LnQ w s l):=by
 obtain ⟨POST,hP⟩ : ∃ Q : Ending → World → Prop,Q = LnQ w s l:=⟨_,rfl⟩
 have HPo : Hid (∀ e w',(∃ v' ed',e = .returned v' ∧ w'.ownsRow w.heap.size 109 2 v' ed'.length (edC ed') ∧ Ord ed' ∧ (∀ x,x ∈ ed' ↔ x ∈ Tr.edF s l l.length) ∧ Below w.heap.size w w') → POST e w'):=fun e w' h => by rw [hP];exact h
 rw [← hP]
 clear hP
 have hA0 : Below w.heap.size w (w.alloc (.cells #[.slice pa s.progs.length pc,.slice ra s.rooms.length rc,.int .i64 s.groups,.int .i64 s.locks,.int .i64 s.cells,.slice la l.length lc,.int .i64 (Tr.rnC l : Int)] 57)):=(Below.refl w.heap.size w).alloc (Nat.le_refl _) _
 have HSy:=ζ (hs.below hA0)
 have HEv:=ζ (hl.below hA0)
 have HSo : Hid (w.heap.size ≤ (w.alloc (.cells #[.slice pa s.progs.length pc,.slice ra s.rooms.length rc,.int .i64 s.groups,.int .i64 s.locks,.int .i64 s.cells,.slice la l.length lc,.int .i64 (Tr.rnC l : Int)] 57)).heap.size):=hA0.size
 have HOk:=ζ ho
 have HGd:=ζ hg
 have HRn : Hid (Tr.rnC l ≤ 512):=by
  show _ ≤ _
  have:=rn_le hg (Nat.le_refl _)
  rw [List.take_length] at this;exact this
 have HNw : Hid (∀ W,SyI W s pa ra → Calls Try.prog 48 #[.agg #[.slice pa s.progs.length pc,.slice ra s.rooms.length rc,.int .i64 s.groups,.int .i64 s.locks,.int .i64 s.cells,.slice la l.length lc,.int .i64 (Tr.rnC l : Int)]] W fun e w' => ∃ g v,e = .returned (.pointer (some ⟨g,0,none⟩)) ∧ KM W w' g ra rc (Tr.rnC l) s.rooms.length s.locks.toNat (ltF s l 0) v):=fun W hW => hN s pa pc ra rc la lc l W hW ho HRn.out
 clear hA0 hs hl ho hg
 have hA : Below w.heap.size w (w.alloc (.cells #[.slice pa s.progs.length pc,.slice ra s.rooms.length rc,.int .i64 s.groups,.int .i64 s.locks,.int .i64 s.cells,.slice la l.length lc,.int .i64 (Tr.rnC l : Int)] 57)):=(Below.refl _ _).alloc (Nat.le_refl _) _
 have N1 : Hid ((w.alloc (.cells #[.slice pa s.progs.length pc,.slice ra s.rooms.length rc,.int .i64 s.groups,.int .i64 s.locks,.int .i64 s.cells,.slice la l.length lc,.int .i64 (Tr.rnC l : Int)] 57)).heap[w.heap.size]? = some (.cells #[.slice pa s.progs.length pc,.slice ra s.rooms.length rc,.int .i64 s.groups,.int .i64 s.locks,.int .i64 s.cells,.slice la l.length lc,.int .i64 (Tr.rnC l : Int)] 57 (0,0))):=heap_alloc_new w _
 have NB:=ζ hA
 clear hA
 go_enter Try.func34,Try.ntmps34
 refine wp_seq_k fun K hK => ?_
 have HK:=ζ hK
 clear hK
 go_wp2
 refine HK.out _ _ ?_
 clear HK K
 generalize w.alloc _ = X at *
 have HSo2 : Hid (w.heap.size ≤ X.heap.size):=NB.out.size
 obtain ⟨z0,z1,z2,z3,z4,z5,z6⟩:=cellsY7 N1.out
 refine wp_seq_k fun K1 hK1 => ?_
 have HK1:=ζ hK1
 clear hK1
 go_wp2_with fail
 refine (HNw.out _ HSy.out).mono ?_
 rintro e1 W1 ⟨g,v,rfl,hm⟩
 have HM1:=ζ hm
 have NH:=ζ (blk_keep N1.out hm.bl)
 clear hm HNw z0 z1 z2 z3 z4 z5 z6
 obtain ⟨z0,z1,z2,z3,z4,z5,z6⟩:=cellsY7 NH.out
 go_wp2
 refine HK1.out _ _ ?_
 clear HK1 K1
 refine wp_seq_k fun K2 hK2 => ?_
 have HK2:=ζ hK2
 clear hK2
 go_wp2
 go_loopw [11] (fun j wr => ∃ (k : Nat) (v : Ow → Value),k ≤ l.length ∧ j = .int .i64 (k : Int) ∧ Hid (KM X wr g ra rc (Tr.rnC l) s.rooms.length s.locks.toNat (ltF s l k) v)) (fun j wr => l.length - (intOf j).toNat)
 case atStart => exact ⟨0,v,Nat.zero_le _,rfl,HM1⟩
 case round =>
  clear HM1;obtain ⟨k,v,hk,rfl,HM⟩:=hrel
  by_cases hlt : k < l.length
  ·have hk1 : (k : Int) < (l.length : Int):=by omega
   have hk0 : (0 : Int) ≤ (k : Int):=by omega
   obtain ⟨b,off,who,op,a,va,sh,hla,hev,_,_,_,_,c0,c1,c2,c3,c4⟩:=(HEv.out.below HM.out.bl).get k hlt
   subst hla;have hfit:=HGd.out k hlt
   have hw0 : (Tr.ev l k).who = who:=by rw [hev]
   have f0 : 0 ≤ who:=by rw [← hw0];exact hfit.w0
   have f1 : who < Tr.rnC (l.take k):=by rw [← hw0];exact hfit.w1
   obtain ⟨wn,rfl⟩ : ∃ wn : Nat,who = (wn : Int):=⟨who.toNat,by omega⟩
   have hwR : wn < Tr.rnC l:=by
    have:=Tr.rnC_mono l (Nat.le_of_lt hlt) (Nat.le_refl _)
    rw [List.take_length] at this;omega
   have HLT:=ζ hlt
   have HFt:=ζ hfit
   have HEV:=ζ hev
   have w0 : (0 : Int) ≤ (wn : Int):=by omega
   have w1 : (wn : Int) < (Tr.rnC l : Int):=by omega
   have hAe : Below wr.heap.size wr (wr.alloc (.cells #[.int .i64 (wn : Int),.int .i64 op,.int .i64 a,.int .i64 va,.bool sh] 39)):=(Below.refl _ _).alloc (Nat.le_refl _) _
   have HMe:=ζ (HM.out.below hAe)
   have NE : Hid ((wr.alloc (.cells #[.int .i64 (wn : Int),.int .i64 op,.int .i64 a,.int .i64 va,.bool sh] 39)).heap[wr.heap.size]? = some (.cells #[.int .i64 (wn : Int),.int .i64 op,.int .i64 a,.int .i64 va,.bool sh] 39 (0,0))):=heap_alloc_new wr _
   obtain ⟨b2,cap2,e2,y2,_⟩:=HMe.out.laAt wn hwR
   have E2:=ζ e2
   have y2 : (wr.alloc (.cells #[.int .i64 (wn : Int),.int .i64 op,.int .i64 a,.int .i64 va,.bool sh] 39)).cell? ⟨b2,wn,none⟩ = some (.int .i64 (Tr.laF l k (wn : Int))):=y2
   have HLk : Hid (∀ W,Below (wr.alloc (.cells #[.int .i64 (wn : Int),.int .i64 op,.int .i64 a,.int .i64 va,.bool sh] 39)).heap.size (wr.alloc (.cells #[.int .i64 (wn : Int),.int .i64 op,.int .i64 a,.int .i64 va,.bool sh] 39)) W → Calls Try.prog 49 #[.pointer (some ⟨g,0,none⟩),.int .i64 (Tr.laF l k (wn : Int)),.int .i64 (k : Int)] W fun e w' => e = .returned (.tuple #[]) ∧ (∃ v',KM X w' g ra rc (Tr.rnC l) s.rooms.length s.locks.toNat { ltF s l k with ed:=Tr.edF s l k ++ Tr.lnk (Tr.laF l k (wn : Int)) k } v' ∧ ∀ i,i ≠ .ed → v' i = v i) ∧ (∀ (p : Nat) (cs : Array Value) (ty : TypeId) (fr : Nat × Nat),W.heap[p]? = some (.cells cs ty fr) → ty ≠ 109 → ty ≠ 116 → w'.heap[p]? = some (.cells cs ty fr))):=fun W hW => plink (Tr.laF l k (wn : Int)) k W (HMe.out.below hW) (by show (Tr.edF s l k).length ≤ _;have:=edF_len s l k (by omega);omega)
   obtain ⟨xl,hxl⟩ : ∃ xl,Tr.laF l k (wn : Int) = xl:=⟨_,rfl⟩
   have HXl:=ζ hxl
   rw [hxl] at y2 HLk;clear hlt hfit hev hw0 f0 f1 hAe e2 hxl HM NH;go_wp2;generalize wr.alloc _ = We at *;generalize wr.heap.size = be at *;refine wp_region_noPanic ?_
   refine RG.wp_region_L (fun Z => Below We.heap.size We Z) (fun Z => True) [10] (by kernel_rfl) ?_
   refine RG.wpL_any fun Yz93 hY => ?_
   have HBz93 : Hid (Below We.heap.size We Yz93):=by rw [hY];exact below_drewN (Below.refl _ _) 1
   clear hY;refine RG.wpL_takeS (fuel:=1) (a':=?Az93) [0,1,2,3,4,5,6,7,8,9] (by kernel_rfl) (by kernel_rfl) (fun _ _ _ _ _ h => h) trivial (HBz93.out) ?rz93 ?_
   case rz93 =>
    iterate 4
     refine RG.rS ?_ (fun Z hT hS => ?_) ?_
     rotate_left
     ·go_simp
      rfl
     simp only [Act.put,lA,lB,lC,lD,lE,lF]
    refine RG.rS (.slice (some ⟨b2,0,none⟩) (Tr.rnC l) cap2) (fun Z hT hS => ?_) ?_
    ·obtain ⟨x0,x1,x2,x3,x4,x5,x6⟩:=cellsY7 (blk_keep HMe.out.blk hS);obtain ⟨z0,z1,z2,z3,z4⟩:=cellsY5 (blk_keep NE.out hS);rw [E2.out] at x2;have y2:=keepC hS y2
     go_simp
    simp only [Act.put,lA,lB,lC,lD,lE,lF]
    refine RG.rS ?_ (fun Z hT hS => ?_) ?_
    rotate_left
    ·go_simp
     rfl
    simp only [Act.put,lA,lB,lC,lD,lE,lF]
    refine RG.rS (.int .i64 (wn : Int)) (fun Z hT hS => ?_) ?_
    ·obtain ⟨x0,x1,x2,x3,x4,x5,x6⟩:=cellsY7 (blk_keep HMe.out.blk hS);obtain ⟨z0,z1,z2,z3,z4⟩:=cellsY5 (blk_keep NE.out hS);rw [E2.out] at x2;have y2:=keepC hS y2
     go_simp
    simp only [Act.put,lA,lB,lC,lD,lE,lF]
    refine RG.rS ?_ (fun Z hT hS => ?_) ?_
    rotate_left
    ·go_simp
     rfl
    simp only [Act.put,lA,lB,lC,lD,lE,lF]
    refine RG.rS (.int .i64 xl) (fun Z hT hS => ?_) ?_
    ·obtain ⟨x0,x1,x2,x3,x4,x5,x6⟩:=cellsY7 (blk_keep HMe.out.blk hS);obtain ⟨z0,z1,z2,z3,z4⟩:=cellsY5 (blk_keep NE.out hS);rw [E2.out] at x2;have y2:=keepC hS y2
     go_simp
    simp only [Act.put,lA,lB,lC,lD,lE,lF]
    refine RG.rS ?_ (fun Z hT hS => ?_) ?_
    rotate_left
    ·go_simp
     rfl
    simp only [Act.put,lA,lB,lC,lD,lE,lF]
    exact RG.RunsS.nil
   refine RG.wpL_late (i:=10) (by kernel_rfl) (by rfl) (by rfl) (by kernel_rfl) (fun KX hK => ?_)
   have HK:=ζ hK
   clear hK;go_simp;refine (HLk.out Yz93 HBz93.out).mono ?_
   rintro e_z93 W5 ⟨rfl,⟨v5,hm5,hv5⟩,hp5⟩
   have HM5:=ζ hm5
   have E25 : Hid (v5 .la = .slice (some ⟨b2,0,none⟩) (Tr.rnC l) cap2):=by show _ = _;rw [hv5 _ (by intro h;cases h)];exact E2.out
   have N5:=ζ (hp5 _ _ _ _ (blk_keep NE.out HBz93.out) (by decide) (by decide))
   have HX5 : Hid (∀ Y,Below W5.heap.size W5 Y → (∃ z,Y.cell? ⟨b2,wn,none⟩ = some z) ∧ Y.frozen? ⟨b2,wn,none⟩ = false ∧ KM X (Y.setCell ⟨b2,wn,none⟩ (.int .i64 (k : Int))) g ra rc (Tr.rnC l) s.rooms.length s.locks.toNat (ltM s l k wn) v5 ∧ (Y.setCell ⟨b2,wn,none⟩ (.int .i64 (k : Int))).heap[be]? = some (.cells #[.int .i64 (wn : Int),.int .i64 op,.int .i64 a,.int .i64 va,.bool sh] 39 (0,0))):=fun Y hY => by
    have hy:=HM5.out.below hY
    obtain ⟨b',cap',e',y',f'⟩:=hy.laAt wn hwR
    rw [E25.out] at e'
    injection e' with q1 _ _
    injection q1 with q1
    injection q1 with q1
    subst q1;have hrow:=hy.fam.own .la
    obtain ⟨_,cur,hcur⟩:=row_is hrow E25.out (by show 0 < Tr.rnC l;omega)
    have hs:=hy.setLa E25.out wn (k : Int)
    refine ⟨⟨_,y'⟩,f',?_,blk_setN (blk_keep N5.out hY) hcur (by show 39 ≠ 3;decide)⟩
    unfold ltM;rw [HXl.out];exact hs
   clear hm5 hv5 hp5 HLk;refine HK.out _ _ trivial ?_
   clear HK KX;try simp only [Act.put,lA,lB,lC,lD,lE,lF]
   refine RG.wpL_done (by kernel_rfl) ?_ _
   refine NoPanic.normal ?_
   go_wp2;refine wp_region_noPanic ?_
   refine RG.wp_region_L (fun Z => Below W5.heap.size W5 Z) (fun Z => True) [8] (by kernel_rfl) ?_
   refine RG.wpL_any fun Yz94 hY => ?_
   have HBz94 : Hid (Below W5.heap.size W5 Yz94):=by rw [hY];exact below_drewN (Below.refl _ _) 1
   clear hY;refine RG.wpL_takeS (fuel:=1) (a':=?Az94) [0,1,2,3,4,5,6,7] (by kernel_rfl) (by kernel_rfl) (fun _ _ _ _ _ h => h) trivial (HBz94.out) ?rz94 ?_
   case rz94 =>
    iterate 3
     refine RG.rS ?_ (fun Z hT hS => ?_) ?_
     rotate_left
     ·go_simp
      rfl
     simp only [Act.put,lA,lB,lC,lD,lE,lF]
    refine RG.rS (.slice (some ⟨b2,0,none⟩) (Tr.rnC l) cap2) (fun Z hT hS => ?_) ?_
    ·obtain ⟨x0,x1,x2,x3,x4,x5,x6⟩:=cellsY7 (blk_keep HM5.out.blk hS);obtain ⟨z0,z1,z2,z3,z4⟩:=cellsY5 (blk_keep N5.out hS);rw [E25.out] at x2
     go_simp
    simp only [Act.put,lA,lB,lC,lD,lE,lF]
    refine RG.rS ?_ (fun Z hT hS => ?_) ?_
    rotate_left
    ·go_simp
     rfl
    simp only [Act.put,lA,lB,lC,lD,lE,lF]
    refine RG.rS (.int .i64 (wn : Int)) (fun Z hT hS => ?_) ?_
    ·obtain ⟨x0,x1,x2,x3,x4,x5,x6⟩:=cellsY7 (blk_keep HM5.out.blk hS);obtain ⟨z0,z1,z2,z3,z4⟩:=cellsY5 (blk_keep N5.out hS);rw [E25.out] at x2
     go_simp
    simp only [Act.put,lA,lB,lC,lD,lE,lF]
    iterate 2
     refine RG.rS ?_ (fun Z hT hS => ?_) ?_
     rotate_left
     ·go_simp
      rfl
     simp only [Act.put,lA,lB,lC,lD,lE,lF]
    exact RG.RunsS.nil
   obtain ⟨⟨zz,cz⟩,fz,hM6,hN6⟩:=HX5.out Yz94 HBz94.out
   have HM6:=ζ hM6
   have N6:=ζ hN6
   clear hM6 hN6;refine RG.wpL_late (i:=8) (by kernel_rfl) (by rfl) (by rfl) (by kernel_rfl) (fun KX hK => ?_)
   have HK:=ζ hK
   clear hK;go_simp;refine HK.out _ _ trivial ?_
   clear HK KX cz fz;refine RG.wpL_done (by kernel_rfl) ?_ _
   refine NoPanic.normal ?_
   generalize World.setCell _ _ _ = W6 at *;obtain ⟨z0,z1,z2,z3,z4⟩:=cellsY5 N6.out
   go_wp2_with fail
   refine (ptake k wn (wn : Int) op a va sh W6 HEV.out rfl HM6.out HOk.out HFt.out HLT.out hL rfl (by have:=HOk.out.l1;omega) HSy.out.sm.rm).mono ?_
   rintro e7 W7 ⟨rfl,v7,hm7⟩
   have HM7:=ζ hm7
   clear hm7;go_wp2;go_roundw
   case rel => exact ⟨k + 1,v7,HLT.out,by go_num,HM7⟩
   case measure => simp [intOf];have:=HLT.out;omega
  ·obtain rfl : k = l.length:=by omega
   have hk1 : ¬ (l.length : Int) < (l.length : Int):=by omega
   have hrow : wr.ownsRow X.heap.size 109 2 (v .ed) (Tr.edF s l l.length).length (edC (Tr.edF s l l.length)):=HM.out.fam.own .ed
   obtain ⟨ea,ec,hed⟩:=own_openE hrow
   obtain ⟨x0,x1,x2,x3,x4,x5,x6⟩:=cellsY7 HM.out.blk
   rw [hed] at x0 hrow;have HCi:=ζ (hI X.heap.size _ _ wr hrow (by have:=edF_len s l l.length hL;omega) HM.out.bl.size)
   have HBo : Hid (Below X.heap.size X wr):=HM.out.bl
   clear hrow hed HM NH;generalize (Tr.edF s l l.length).length = N at *;go_wp2;refine HK2.out _ _ ?_;clear HK2;go_wp2_with fail
   refine HCi.out.mono ?_
   rintro e2 W2 ⟨v2,ed2,rfl,h1,h2,h3,h4⟩
   have HR:=ζ (HPo.out (.returned v2) W2 ⟨v2,ed2,rfl,own_baseL h1 HSo2.out,h2,h3,NB.out.trans ((HBo.out.trans (h4.mono (Nat.le_refl _))).mono NB.out.size)⟩)
   clear h1 h2 h3 h4 HCi HPo;go_wp2;first | exact HR.out | exact ⟨rfl,HR.out⟩
end LW
end Go.Proofs.Ytfbnakmmmphedaa
