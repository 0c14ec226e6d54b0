/-
 How a cell is read or written.
-/
import Derived.Test.YtfbnakmmmphedaaPgAo
set_option linter.unusedVariables false
set_option linter.unusedSimpArgs false
set_option maxRecDepth 100000
set_option maxHeartbeats 4000000
namespace Go.Proofs.Ytfbnakmmmphedaa
open Go.RowKit
namespace LW
open Mc
theorem pacc12 {o : World} {g : Nat} {s : Syst} {pa : Option Addr} {pc : Nat} {t : St} {m : PV} (k ra rb cj : Nat) (a2 : Int) (eb ecap : Nat) (w : World) (h : PM o w g s pa pc { t with evs:=t.evs ++ [⟨(k : Int),12,0,0,false⟩] } m) (hg : Mc.Good s t) (hk : k < t.rns.length) (hra : ra < 8) (hrb : rb < 8) (hcl : cj < t.cells.length) (hc6 : t.cells.length ≤ 64) (hcj : reg t k (ra : Int) % (t.cells.length : Int) = (cj : Int)) (he : m.ev = .slice (some ⟨eb,0,none⟩) (t.evs.length + 1) ecap) :
  Calls Try.prog 55 #[.pointer (some ⟨g,0,none⟩),.pointer (some ⟨m.ps.getD k 0,0,none⟩),.agg #[.int .i64 12,.int .i64 (ra : Int),.int .i64 (rb : Int),.int .i64 a2],.pointer (some ⟨eb,t.evs.length * 5,none⟩)] w fun e w' => e = .returned (.tuple #[]) ∧ PM o w' g s pa pc { t with rns:=setR t k (rb : Int) (t.cells.getD cj 0),evs:=t.evs ++ [⟨(k : Int),12,(cj : Int),t.cells.getD cj 0,false⟩] } m:=by
 have hc64:=hg.cl
 have h8:=(hg.gr k hk).rl
 have hi:=reg_i64 hg hk (ra : Int)
 have hA0 : Below w.heap.size w (w.alloc (.cells #[.int .i64 12,.int .i64 (ra : Int),.int .i64 (rb : Int),.int .i64 a2] 68)):=(Below.refl _ _).alloc (Nat.le_refl _) _
 have NI0 : (w.alloc (.cells #[.int .i64 12,.int .i64 (ra : Int),.int .i64 (rb : Int),.int .i64 a2] 68)).heap[w.heap.size]? = some (.cells #[.int .i64 12,.int .i64 (ra : Int),.int .i64 (rb : Int),.int .i64 a2] 68 (0,0)):=heap_alloc_new w _
 have HM:=ζ (h.below hA0)
 have HI:=ζ NI0
 have HE:=ζ he
 have H8:=ζ h8
 have HKk:=ζ hk
 have HCL:=ζ hcl
 have HRe : Hid (∀ W,Calls Try.prog 29 #[.int .i64 (reg t k (ra : Int)),.int .i64 (t.cells.length : Int)] W fun e w' => e = .returned (.int .i64 (cj : Int)) ∧ W = w'):=fun W => by rw [← hcj];exact prest _ _ W (by omega) (by omega) hi
 clear h hA0 NI0 he h8 hi hcj hg
 obtain ⟨POST,hP⟩ : ∃ P : Ending → World → Prop,P = fun e w' => e = .returned (.tuple #[]) ∧ PM o w' g s pa pc { t with rns:=setR t k (rb : Int) (t.cells.getD cj 0),evs:=t.evs ++ [⟨(k : Int),12,(cj : Int),t.cells.getD cj 0,false⟩] } m:=⟨_,rfl⟩
 have hHP : ∀ w',PM o w' g s pa pc { t with rns:=setR t k (rb : Int) (t.cells.getD cj 0),evs:=t.evs ++ [⟨(k : Int),12,(cj : Int),t.cells.getD cj 0,false⟩] } m → POST (.returned (.tuple #[])) w':=fun w' h => by rw [hP];exact ⟨rfl,h⟩
 have HP:=ζ hHP
 rw [← hP]
 clear hP hHP
 have HC5 : Hid (∀ (u : St) (W : World),PM o W g s pa pc u m → u.cells.length = t.cells.length → ∃ cb ccap,W.cell? ⟨g,5,none⟩ = some (.slice (some ⟨cb,0,none⟩) t.cells.length ccap) ∧ m.cv = .slice (some ⟨cb,0,none⟩) t.cells.length ccap ∧ W.frozen? ⟨cb,cj,none⟩ = false ∧ W.cell? ⟨cb,cj,none⟩ = some (.int .i64 (u.cells.getD cj 0))):=fun u W hW hl => by
  obtain ⟨b,cp,e,_,hf,hc⟩:=hW.ce1 cj (by rw [hl];exact HCL.out)
  exact ⟨b,cp,by rw [hW.c5,e,hl],by rw [e,hl],hf,hc⟩
 have HRg : Hid (∀ (u : St) (W : World) (r : Nat),PM o W g s pa pc u m → u.rns.length = t.rns.length → r < 8 → W.cell? ⟨m.ps.getD k 0,2 + r,none⟩ = some (.int .i64 (reg u k (r : Int)))):=fun u W r hW hl hr => hW.reg1 k (by rw [hl];exact HKk.out) r hr
 have HRf : Hid (∀ (u : St) (W : World),PM o W g s pa pc u m → u.rns.length = t.rns.length → ∀ j,W.frozen? ⟨m.ps.getD k 0,j,none⟩ = false):=fun u W hW hl j => hW.rfz k (by rw [hl];exact HKk.out) j
 have HSr : Hid (∀ (W : World) (x : Int),PM o W g s pa pc { t with evs:=t.evs ++ [⟨(k : Int),12,(cj : Int),0,false⟩] } m → PM o (W.setCell ⟨m.ps.getD k 0,2 + rb,none⟩ (.int .i64 x)) g s pa pc { t with rns:=setR t k (rb : Int) x,evs:=t.evs ++ [⟨(k : Int),12,(cj : Int),0,false⟩] } m):=fun W x hW => hW.setReg k HKk.out rb hrb H8.out x
 have HRB : Hid (∀ (u : St) (W : World),PM o W g s pa pc u m → u.rns.length = t.rns.length → ∃ cs,W.heap[m.ps.getD k 0]? = some (.cells cs 75 (0,0))):=fun u W hW hl => ⟨_,hW.rnB k (by rw [hl];exact HKk.out)⟩
 have HEB : Hid (∀ (W : World) (u : St),PM o W g s pa pc u m → u.evs.length = t.evs.length + 1 → ∃ cs,W.heap[eb]? = some (.cells cs 39 (0,0))):=fun W u hW hl => by
  obtain ⟨_,cur,hh⟩:=row_is (cap:=ecap) hW.evs (by rw [HE.out,hl]) (by omega)
  exact ⟨cur,hh⟩
 have HVB : Hid (reg t k (rb : Int) = reg t k (rb : Int)):=rfl
 obtain ⟨va,hva⟩ : ∃ va,reg t k (ra : Int) = va:=⟨_,rfl⟩
 obtain ⟨vb,hvb⟩ : ∃ vb,reg t k (rb : Int) = vb:=⟨_,rfl⟩
 obtain ⟨cv,hcv⟩ : ∃ cv,t.cells.getD cj 0 = cv:=⟨_,rfl⟩
 obtain ⟨pk,hpk⟩ : ∃ pk,m.ps.getD k 0 = pk:=⟨_,rfl⟩
 have HVa:=ζ hva
 have HVb:=ζ hvb
 have HCv:=ζ hcv
 rw [hva] at HRe
 rw [hcv] at HP
 rw [hpk] at HRg HRf HSr HRB ⊢
 clear hva hvb hcv hpk HVB
 have ra1 : (ra : Int) < 8:=by omega
 have ra0 : (0 : Int) ≤ (ra : Int):=by omega
 have rb1 : (rb : Int) < 8:=by omega
 have rb0 : (0 : Int) ≤ (rb : Int):=by omega
 have cj1 : (cj : Int) < (t.cells.length : Int):=by omega
 have cj0 : (0 : Int) ≤ (cj : Int):=by omega
 obtain ⟨cn,hcn⟩ : ∃ cn,t.cells.length = cn:=⟨_,rfl⟩
 have HCN:=ζ hcn
 rw [hcn] at HRe cj1 HC5
 obtain ⟨el,hel⟩ : ∃ el,t.evs.length = el:=⟨_,rfl⟩
 have HEL:=ζ hel
 rw [hel] at ⊢
 clear hcn hel hcl hk hc64
 go_enter Try.func55,Try.ntmps55
 refine wp_seq_k fun K hK => ?_
 have HK:=ζ hK
 clear hK
 go_wp2
 refine HK.out _ _ ?_
 clear HK K
 generalize w.alloc _ = X at *
 generalize w.heap.size = gi at *
 obtain ⟨cb,ccap,c5,hcve,_,xc⟩:=HC5.out _ X HM.out HCN.out
 have HCVe:=ζ hcve
 clear hcve
 have x1:=HRg.out _ X ra HM.out rfl hra
 change X.cell? _ = some (.int .i64 (reg t k (ra : Int))) at x1
 rw [HVa.out] at x1
 obtain ⟨z0,z1,z2,z3⟩:=cellsY4 HI.out
 refine wp_seq_k fun K hK => ?_
 have HK:=ζ hK
 clear hK
 refine wp_region_noPanic ?_
 refine RG.wp_region_L (fun Z => Below X.heap.size X Z) (fun Z => True) [16] (by kernel_rfl) ?_
 refine RG.wpL_any fun Yz1 hY => ?_
 have HBz1 : Hid (Below X.heap.size X Yz1):=by rw [hY];exact below_drewN (Below.refl _ _) 1
 clear hY
 refine RG.wpL_take (fuel:=4) (a':=?Az1) [0,1,2,3,4,5,6,7,8,9,10,11,12] (by kernel_rfl) (by kernel_rfl) (fun _ _ _ _ _ h => h) trivial (fun _ => HBz1.out) ?rz1 ?_
 case rz1 =>
  iterate 3
   refine RG.rW ?_ (fun Z hT => ?_) ?_
   rotate_left
   ·go_simp
    rfl
   simp only [Act.put,lA,lB,lC,lD,lE,lF]
  refine RG.RunsIf.strong (v:=.int .i64 (ra : Int)) (by rfl) (by kernel_rfl) (by rfl) (fun Z hT hS => ?_) ?_
  ·have y1:=keepC hS z1;have y2:=keepC hS x1;have y3:=keepC hS c5
   go_simp
  simp only [Act.put,lA,lB,lC,lD,lE,lF]
  iterate 3
   refine RG.rW ?_ (fun Z hT => ?_) ?_
   rotate_left
   ·go_simp
    rfl
   simp only [Act.put,lA,lB,lC,lD,lE,lF]
  refine RG.RunsIf.strong (v:=.int .i64 va) (by rfl) (by kernel_rfl) (by rfl) (fun Z hT hS => ?_) ?_
  ·have y1:=keepC hS z1;have y2:=keepC hS x1;have y3:=keepC hS c5
   go_simp
  simp only [Act.put,lA,lB,lC,lD,lE,lF]
  iterate 3
   refine RG.rW ?_ (fun Z hT => ?_) ?_
   rotate_left
   ·go_simp
    rfl
   simp only [Act.put,lA,lB,lC,lD,lE,lF]
  refine RG.RunsIf.strong (v:=.slice (some ⟨cb,0,none⟩) cn ccap) (by rfl) (by kernel_rfl) (by rfl) (fun Z hT hS => ?_) ?_
  ·have y1:=keepC hS z1;have y2:=keepC hS x1;have y3:=keepC hS c5
   go_simp
  simp only [Act.put,lA,lB,lC,lD,lE,lF]
  refine RG.rW ?_ (fun Z hT => ?_) ?_
  rotate_left
  ·go_simp
   rfl
  simp only [Act.put,lA,lB,lC,lD,lE,lF]
  exact RG.RunsIf.nil
 refine RG.wpL_step (i:=13) (by kernel_rfl) (by rfl) (by rfl) (fun KX hK => ?_)
 have HK:=ζ hK
 clear hK
 go_simp
 refine (HRe.out Yz1).mono ?_
 rintro e_z1 w_z1 ⟨rfl,rfl⟩
 refine HK.out _ _ trivial (fun _ => HBz1.out) ?_
 clear HK KX
 try simp only [Act.put,lA,lB,lC,lD,lE,lF]
 refine RG.wpL_take (fuel:=1) (a':=?Az1x) [14,15] (by kernel_rfl) (by kernel_rfl) (fun _ _ _ _ _ h => h) trivial (fun _ => HBz1.out) ?rz1x ?_
 case rz1x =>
  iterate 2
   refine RG.rW ?_ (fun Z hT => ?_) ?_
   rotate_left
   ·go_simp
    rfl
   simp only [Act.put,lA,lB,lC,lD,lE,lF]
  exact RG.RunsIf.nil
 have HMq:=ζ (HM.out.below HBz1.out)
 have HIq:=ζ (blk_keep HI.out HBz1.out)
 obtain ⟨fz_,cz_,_,_⟩:=HMq.out.last1 HE.out
 rw [HEL.out] at cz_
 have cz:=cz_
 have fz:=fz_ (el * 5 + 2)
 clear fz_ cz_
 refine RG.wpL_late (i:=16) (by kernel_rfl) (by rfl) (by rfl) (by kernel_rfl) (fun KX hK => ?_)
 have HK:=ζ hK
 clear hK
 go_simp
 refine HK.out _ _ trivial ?_
 clear HK KX cz fz
 refine RG.wpL_done (by kernel_rfl) ?_ _
 refine NoPanic.normal ?_
 have HM1 : Hid (PM o (Yz1.setCell ⟨eb,el * 5 + 2,none⟩ (.int .i64 (cj : Int))) g s pa pc { t with evs:=t.evs ++ [⟨(k : Int),12,(cj : Int),0,false⟩] } m):=by
  have:=HMq.out.lastA HE.out (cj : Int)
  rw [HEL.out] at this;exact this
 have HI1 : Hid ((Yz1.setCell ⟨eb,el * 5 + 2,none⟩ (.int .i64 (cj : Int))).heap[gi]? = some (.cells #[.int .i64 12,.int .i64 (ra : Int),.int .i64 (rb : Int),.int .i64 a2] 68 (0,0))):=by
  obtain ⟨cs,hcs⟩:=HEB.out _ _ HMq.out (by simp)
  exact blk_setN HIq.out hcs (by decide)
 clear HMq HIq HM HI z0 z1 z2 z3 c5 x1 xc
 refine HK.out _ _ ?_
 clear HK K
 generalize World.setCell _ _ _ = X1 at *
 obtain ⟨z0,z1,z2,z3⟩:=cellsY4 HI1.out
 refine wp_seq_k fun K hK => ?_
 have HK:=ζ hK
 clear hK
 go_wp2
 obtain ⟨cb',ccap',c5,hcve',_,xc⟩:=HC5.out _ X1 HM1.out HCN.out
 have ecb : cb = cb' ∧ ccap = ccap':=by
  rw [HCVe.out] at hcve'
  injection hcve' with q1 _ q3
  injection q1 with q1
  injection q1 with q1
  exact ⟨q1,q3⟩
 obtain ⟨rfl,rfl⟩:=ecb
 clear hcve'
 obtain ⟨_,xe,_,_⟩:=HM1.out.last1 HE.out
 rw [HEL.out] at xe
 change X1.cell? _ = some (.int .i64 (t.cells.getD cj 0)) at xc
 rw [HCv.out] at xc
 refine wp_region_noPanic ?_
 refine RG.wp_region_L (fun Z => Below X1.heap.size X1 Z) (fun Z => True) [16] (by kernel_rfl) ?_
 refine RG.wpL_any fun Yz2 hY => ?_
 have HBz2 : Hid (Below X1.heap.size X1 Yz2):=by rw [hY];exact below_drewN (Below.refl _ _) 1
 clear hY
 refine RG.wpL_take (fuel:=1) (a':=?Az2) [0,1,2,3,4,5,6,7,8,9,10,11,12,13,14,15] (by kernel_rfl) (by kernel_rfl) (fun _ _ _ _ _ h => h) trivial (fun _ => HBz2.out) ?rz2 ?_
 case rz2 =>
  iterate 2
   refine RG.rW ?_ (fun Z hT => ?_) ?_
   rotate_left
   ·go_simp
    rfl
   simp only [Act.put,lA,lB,lC,lD,lE,lF]
  refine RG.RunsIf.strong (v:=.int .i64 (rb : Int)) (by rfl) (by kernel_rfl) (by rfl) (fun Z hT hS => ?_) ?_
  ·have y2:=keepC hS z2;have y3:=keepC hS c5;have y4:=keepC hS xe;have y5:=keepC hS xc
   go_simp
  simp only [Act.put,lA,lB,lC,lD,lE,lF]
  iterate 3
   refine RG.rW ?_ (fun Z hT => ?_) ?_
   rotate_left
   ·go_simp
    rfl
   simp only [Act.put,lA,lB,lC,lD,lE,lF]
  refine RG.RunsIf.strong (v:=.slice (some ⟨cb,0,none⟩) cn ccap) (by rfl) (by kernel_rfl) (by rfl) (fun Z hT hS => ?_) ?_
  ·have y2:=keepC hS z2;have y3:=keepC hS c5;have y4:=keepC hS xe;have y5:=keepC hS xc
   go_simp
  simp only [Act.put,lA,lB,lC,lD,lE,lF]
  iterate 3
   refine RG.rW ?_ (fun Z hT => ?_) ?_
   rotate_left
   ·go_simp
    rfl
   simp only [Act.put,lA,lB,lC,lD,lE,lF]
  refine RG.RunsIf.strong (v:=.int .i64 (cj : Int)) (by rfl) (by kernel_rfl) (by rfl) (fun Z hT hS => ?_) ?_
  ·have y2:=keepC hS z2;have y3:=keepC hS c5;have y4:=keepC hS xe;have y5:=keepC hS xc
   go_simp
  simp only [Act.put,lA,lB,lC,lD,lE,lF]
  refine RG.rW ?_ (fun Z hT => ?_) ?_
  rotate_left
  ·go_simp
   rfl
  simp only [Act.put,lA,lB,lC,lD,lE,lF]
  refine RG.RunsIf.strong (v:=.int .i64 cv) (by rfl) (by kernel_rfl) (by rfl) (fun Z hT hS => ?_) ?_
  ·have y2:=keepC hS z2;have y3:=keepC hS c5;have y4:=keepC hS xe;have y5:=keepC hS xc
   go_simp
  simp only [Act.put,lA,lB,lC,lD,lE,lF]
  iterate 3
   refine RG.rW ?_ (fun Z hT => ?_) ?_
   rotate_left
   ·go_simp
    rfl
   simp only [Act.put,lA,lB,lC,lD,lE,lF]
  exact RG.RunsIf.nil
 have HMq:=ζ (HM1.out.below HBz2.out)
 have HIq:=ζ (blk_keep HI1.out HBz2.out)
 have cz:=HRg.out _ Yz2 rb HMq.out rfl hrb
 have fz:=HRf.out _ Yz2 HMq.out rfl (2 + rb)
 refine RG.wpL_late (i:=16) (by kernel_rfl) (by rfl) (by rfl) (by kernel_rfl) (fun KX hK => ?_)
 have HK:=ζ hK
 clear hK
 go_simp
 refine HK.out _ _ trivial ?_
 clear HK KX cz fz
 refine RG.wpL_done (by kernel_rfl) ?_ _
 refine NoPanic.normal ?_
 have HM2:=ζ (HSr.out _ cv HMq.out)
 have HI2 : Hid ((Yz2.setCell ⟨pk,2 + rb,none⟩ (.int .i64 cv)).heap[gi]? = some (.cells #[.int .i64 12,.int .i64 (ra : Int),.int .i64 (rb : Int),.int .i64 a2] 68 (0,0))):=by
  obtain ⟨cs,hcs⟩:=HRB.out _ _ HMq.out rfl
  exact blk_setN HIq.out hcs (by decide)
 clear HMq HIq
 clear HM1 HI1 z0 z1 z2 z3 c5 xe xc
 refine HK.out _ _ ?_
 clear HK K
 generalize World.setCell _ _ _ = X2 at *
 obtain ⟨z0,z1,z2,z3⟩:=cellsY4 HI2.out
 have xq : X2.cell? ⟨pk,2 + rb,none⟩ = some (.int .i64 cv):=by
  have h1:=HRg.out _ X2 rb HM2.out (setR_len t k _ _) hrb
  rw [h1];show some (Value.int .i64 ((((setR t k (rb : Int) cv).getD k r0)).regs.getD ((rb : Int).toNat) 0)) = _
  unfold setR;rw [rn_set t k k _ HKk.out,if_pos rfl];show some (Value.int .i64 (((Mc.rn t k).regs.set ((rb : Int).toNat) cv).getD ((rb : Int).toNat) 0)) = _
  rw [Mc.getD_set_eq _ _ _ (by rw [H8.out];omega)]
 refine wp_region_noPanic ?_
 refine RG.wp_region_L (fun Z => Below X2.heap.size X2 Z) (fun Z => True) [10] (by kernel_rfl) ?_
 refine RG.wpL_any fun Yz3 hY => ?_
 have HBz3 : Hid (Below X2.heap.size X2 Yz3):=by rw [hY];exact below_drewN (Below.refl _ _) 1
 clear hY
 refine RG.wpL_take (fuel:=1) (a':=?Az3) [0,1,2,3,4,5,6,7,8,9] (by kernel_rfl) (by kernel_rfl) (fun _ _ _ _ _ h => h) trivial (fun _ => HBz3.out) ?rz3 ?_
 case rz3 =>
  iterate 3
   refine RG.rW ?_ (fun Z hT => ?_) ?_
   rotate_left
   ·go_simp
    rfl
   simp only [Act.put,lA,lB,lC,lD,lE,lF]
  refine RG.RunsIf.strong (v:=.int .i64 (rb : Int)) (by rfl) (by kernel_rfl) (by rfl) (fun Z hT hS => ?_) ?_
  ·have y2:=keepC hS z2;have y5:=keepC hS xq
   go_simp
  simp only [Act.put,lA,lB,lC,lD,lE,lF]
  iterate 3
   refine RG.rW ?_ (fun Z hT => ?_) ?_
   rotate_left
   ·go_simp
    rfl
   simp only [Act.put,lA,lB,lC,lD,lE,lF]
  refine RG.RunsIf.strong (v:=.int .i64 cv) (by rfl) (by kernel_rfl) (by rfl) (fun Z hT hS => ?_) ?_
  ·have y2:=keepC hS z2;have y5:=keepC hS xq
   go_simp
  simp only [Act.put,lA,lB,lC,lD,lE,lF]
  iterate 2
   refine RG.rW ?_ (fun Z hT => ?_) ?_
   rotate_left
   ·go_simp
    rfl
   simp only [Act.put,lA,lB,lC,lD,lE,lF]
  exact RG.RunsIf.nil
 have HMq:=ζ (HM2.out.below HBz3.out)
 obtain ⟨fz_,_,cz_,_⟩:=PM.last1 (t:={ t with rns:=setR t k (rb : Int) cv }) HMq.out HE.out
 change World.cell? _ ⟨eb,t.evs.length * 5 + 3,none⟩ = _ at cz_
 rw [HEL.out] at cz_
 have cz:=cz_
 have fz:=fz_ (el * 5 + 3)
 clear fz_ cz_
 refine RG.wpL_late (i:=10) (by kernel_rfl) (by rfl) (by rfl) (by kernel_rfl) (fun KX hK => ?_)
 have HK:=ζ hK
 clear hK
 go_simp
 refine HK.out _ _ trivial ?_
 clear HK KX cz fz
 refine RG.wpL_done (by kernel_rfl) ?_ _
 refine NoPanic.normal ?_
 have HM3:=ζ (PM.lastV (t:={ t with rns:=setR t k (rb : Int) cv }) HMq.out HE.out cv)
 clear HMq HM2 HI2
 go_end0
 refine HP.out _ ?_
 have:=HM3.out
 change PM o (World.setCell _ ⟨eb,t.evs.length * 5 + 3,none⟩ _) g s pa pc _ _ at this
 rw [HEL.out] at this
 exact this
theorem pacc13 {o : World} {g : Nat} {s : Syst} {pa : Option Addr} {pc : Nat} {t : St} {m : PV} (k ra rb cj : Nat) (a2 : Int) (eb ecap : Nat) (w : World) (h : PM o w g s pa pc { t with evs:=t.evs ++ [⟨(k : Int),13,0,0,false⟩] } m) (hg : Mc.Good s t) (hk : k < t.rns.length) (hra : ra < 8) (hrb : rb < 8) (hcl : cj < t.cells.length) (hc6 : t.cells.length ≤ 64) (hcj : reg t k (ra : Int) % (t.cells.length : Int) = (cj : Int)) (he : m.ev = .slice (some ⟨eb,0,none⟩) (t.evs.length + 1) ecap) :
  Calls Try.prog 55 #[.pointer (some ⟨g,0,none⟩),.pointer (some ⟨m.ps.getD k 0,0,none⟩),.agg #[.int .i64 13,.int .i64 (ra : Int),.int .i64 (rb : Int),.int .i64 a2],.pointer (some ⟨eb,t.evs.length * 5,none⟩)] w fun e w' => e = .returned (.tuple #[]) ∧ PM o w' g s pa pc { t with cells:=t.cells.set cj (reg t k (rb : Int)),evs:=t.evs ++ [⟨(k : Int),13,(cj : Int),reg t k (rb : Int),false⟩] } m:=by
 have hc64:=hg.cl
 have h8:=(hg.gr k hk).rl
 have hi:=reg_i64 hg hk (ra : Int)
 have hA0 : Below w.heap.size w (w.alloc (.cells #[.int .i64 13,.int .i64 (ra : Int),.int .i64 (rb : Int),.int .i64 a2] 68)):=(Below.refl _ _).alloc (Nat.le_refl _) _
 have NI0 : (w.alloc (.cells #[.int .i64 13,.int .i64 (ra : Int),.int .i64 (rb : Int),.int .i64 a2] 68)).heap[w.heap.size]? = some (.cells #[.int .i64 13,.int .i64 (ra : Int),.int .i64 (rb : Int),.int .i64 a2] 68 (0,0)):=heap_alloc_new w _
 have HM:=ζ (h.below hA0)
 have HI:=ζ NI0
 have HE:=ζ he
 have H8:=ζ h8
 have HKk:=ζ hk
 have HCL:=ζ hcl
 have HRe : Hid (∀ W,Calls Try.prog 29 #[.int .i64 (reg t k (ra : Int)),.int .i64 (t.cells.length : Int)] W fun e w' => e = .returned (.int .i64 (cj : Int)) ∧ W = w'):=fun W => by rw [← hcj];exact prest _ _ W (by omega) (by omega) hi
 clear h hA0 NI0 he h8 hi hcj hg
 obtain ⟨POST,hP⟩ : ∃ P : Ending → World → Prop,P = fun e w' => e = .returned (.tuple #[]) ∧ PM o w' g s pa pc { t with cells:=t.cells.set cj (reg t k (rb : Int)),evs:=t.evs ++ [⟨(k : Int),13,(cj : Int),reg t k (rb : Int),false⟩] } m:=⟨_,rfl⟩
 have hHP : ∀ w',PM o w' g s pa pc { t with cells:=t.cells.set cj (reg t k (rb : Int)),evs:=t.evs ++ [⟨(k : Int),13,(cj : Int),reg t k (rb : Int),false⟩] } m → POST (.returned (.tuple #[])) w':=fun w' h => by rw [hP];exact ⟨rfl,h⟩
 have HP:=ζ hHP
 rw [← hP]
 clear hP hHP
 have HC5 : Hid (∀ (u : St) (W : World),PM o W g s pa pc u m → u.cells.length = t.cells.length → ∃ cb ccap,W.cell? ⟨g,5,none⟩ = some (.slice (some ⟨cb,0,none⟩) t.cells.length ccap) ∧ m.cv = .slice (some ⟨cb,0,none⟩) t.cells.length ccap ∧ W.frozen? ⟨cb,cj,none⟩ = false ∧ W.cell? ⟨cb,cj,none⟩ = some (.int .i64 (u.cells.getD cj 0))):=fun u W hW hl => by
  obtain ⟨b,cp,e,_,hf,hc⟩:=hW.ce1 cj (by rw [hl];exact HCL.out)
  exact ⟨b,cp,by rw [hW.c5,e,hl],by rw [e,hl],hf,hc⟩
 have HRg : Hid (∀ (u : St) (W : World) (r : Nat),PM o W g s pa pc u m → u.rns.length = t.rns.length → r < 8 → W.cell? ⟨m.ps.getD k 0,2 + r,none⟩ = some (.int .i64 (reg u k (r : Int)))):=fun u W r hW hl hr => hW.reg1 k (by rw [hl];exact HKk.out) r hr
 have HRf : Hid (∀ (u : St) (W : World),PM o W g s pa pc u m → u.rns.length = t.rns.length → ∀ j,W.frozen? ⟨m.ps.getD k 0,j,none⟩ = false):=fun u W hW hl j => hW.rfz k (by rw [hl];exact HKk.out) j
 have HSr : Hid (∀ (W : World) (x : Int),PM o W g s pa pc { t with evs:=t.evs ++ [⟨(k : Int),13,(cj : Int),0,false⟩] } m → PM o (W.setCell ⟨m.ps.getD k 0,2 + rb,none⟩ (.int .i64 x)) g s pa pc { t with rns:=setR t k (rb : Int) x,evs:=t.evs ++ [⟨(k : Int),13,(cj : Int),0,false⟩] } m):=fun W x hW => hW.setReg k HKk.out rb hrb H8.out x
 have HRB : Hid (∀ (u : St) (W : World),PM o W g s pa pc u m → u.rns.length = t.rns.length → ∃ cs,W.heap[m.ps.getD k 0]? = some (.cells cs 75 (0,0))):=fun u W hW hl => ⟨_,hW.rnB k (by rw [hl];exact HKk.out)⟩
 have HEB : Hid (∀ (W : World) (u : St),PM o W g s pa pc u m → u.evs.length = t.evs.length + 1 → ∃ cs,W.heap[eb]? = some (.cells cs 39 (0,0))):=fun W u hW hl => by
  obtain ⟨_,cur,hh⟩:=row_is (cap:=ecap) hW.evs (by rw [HE.out,hl]) (by omega)
  exact ⟨cur,hh⟩
 have HVB : Hid (reg t k (rb : Int) = reg t k (rb : Int)):=rfl
 obtain ⟨va,hva⟩ : ∃ va,reg t k (ra : Int) = va:=⟨_,rfl⟩
 obtain ⟨vb,hvb⟩ : ∃ vb,reg t k (rb : Int) = vb:=⟨_,rfl⟩
 obtain ⟨cv,hcv⟩ : ∃ cv,t.cells.getD cj 0 = cv:=⟨_,rfl⟩
 obtain ⟨pk,hpk⟩ : ∃ pk,m.ps.getD k 0 = pk:=⟨_,rfl⟩
 have HVa:=ζ hva
 have HVb:=ζ hvb
 have HCv:=ζ hcv
 rw [hva] at HRe
 rw [hvb] at HP
 rw [hpk] at HRg HRf HSr HRB ⊢
 clear hva hvb hcv hpk HVB
 have ra1 : (ra : Int) < 8:=by omega
 have ra0 : (0 : Int) ≤ (ra : Int):=by omega
 have rb1 : (rb : Int) < 8:=by omega
 have rb0 : (0 : Int) ≤ (rb : Int):=by omega
 have cj1 : (cj : Int) < (t.cells.length : Int):=by omega
 have cj0 : (0 : Int) ≤ (cj : Int):=by omega
 obtain ⟨cn,hcn⟩ : ∃ cn,t.cells.length = cn:=⟨_,rfl⟩
 have HCN:=ζ hcn
 rw [hcn] at HRe cj1 HC5
 obtain ⟨el,hel⟩ : ∃ el,t.evs.length = el:=⟨_,rfl⟩
 have HEL:=ζ hel
 rw [hel] at ⊢
 clear hcn hel hcl hk hc64
 go_enter Try.func55,Try.ntmps55
 refine wp_seq_k fun K hK => ?_
 have HK:=ζ hK
 clear hK
 go_wp2
 refine HK.out _ _ ?_
 clear HK K
 generalize w.alloc _ = X at *
 generalize w.heap.size = gi at *
 obtain ⟨cb,ccap,c5,hcve,_,xc⟩:=HC5.out _ X HM.out HCN.out
 have HCVe:=ζ hcve
 clear hcve
 have x1:=HRg.out _ X ra HM.out rfl hra
 change X.cell? _ = some (.int .i64 (reg t k (ra : Int))) at x1
 rw [HVa.out] at x1
 obtain ⟨z0,z1,z2,z3⟩:=cellsY4 HI.out
 refine wp_seq_k fun K hK => ?_
 have HK:=ζ hK
 clear hK
 refine wp_region_noPanic ?_
 refine RG.wp_region_L (fun Z => Below X.heap.size X Z) (fun Z => True) [16] (by kernel_rfl) ?_
 refine RG.wpL_any fun Yz4 hY => ?_
 have HBz4 : Hid (Below X.heap.size X Yz4):=by rw [hY];exact below_drewN (Below.refl _ _) 1
 clear hY
 refine RG.wpL_take (fuel:=4) (a':=?Az4) [0,1,2,3,4,5,6,7,8,9,10,11,12] (by kernel_rfl) (by kernel_rfl) (fun _ _ _ _ _ h => h) trivial (fun _ => HBz4.out) ?rz4 ?_
 case rz4 =>
  iterate 3
   refine RG.rW ?_ (fun Z hT => ?_) ?_
   rotate_left
   ·go_simp
    rfl
   simp only [Act.put,lA,lB,lC,lD,lE,lF]
  refine RG.RunsIf.strong (v:=.int .i64 (ra : Int)) (by rfl) (by kernel_rfl) (by rfl) (fun Z hT hS => ?_) ?_
  ·have y1:=keepC hS z1;have y2:=keepC hS x1;have y3:=keepC hS c5
   go_simp
  simp only [Act.put,lA,lB,lC,lD,lE,lF]
  iterate 3
   refine RG.rW ?_ (fun Z hT => ?_) ?_
   rotate_left
   ·go_simp
    rfl
   simp only [Act.put,lA,lB,lC,lD,lE,lF]
  refine RG.RunsIf.strong (v:=.int .i64 va) (by rfl) (by kernel_rfl) (by rfl) (fun Z hT hS => ?_) ?_
  ·have y1:=keepC hS z1;have y2:=keepC hS x1;have y3:=keepC hS c5
   go_simp
  simp only [Act.put,lA,lB,lC,lD,lE,lF]
  iterate 3
   refine RG.rW ?_ (fun Z hT => ?_) ?_
   rotate_left
   ·go_simp
    rfl
   simp only [Act.put,lA,lB,lC,lD,lE,lF]
  refine RG.RunsIf.strong (v:=.slice (some ⟨cb,0,none⟩) cn ccap) (by rfl) (by kernel_rfl) (by rfl) (fun Z hT hS => ?_) ?_
  ·have y1:=keepC hS z1;have y2:=keepC hS x1;have y3:=keepC hS c5
   go_simp
  simp only [Act.put,lA,lB,lC,lD,lE,lF]
  refine RG.rW ?_ (fun Z hT => ?_) ?_
  rotate_left
  ·go_simp
   rfl
  simp only [Act.put,lA,lB,lC,lD,lE,lF]
  exact RG.RunsIf.nil
 refine RG.wpL_step (i:=13) (by kernel_rfl) (by rfl) (by rfl) (fun KX hK => ?_)
 have HK:=ζ hK
 clear hK
 go_simp
 refine (HRe.out Yz4).mono ?_
 rintro e_z4 w_z4 ⟨rfl,rfl⟩
 refine HK.out _ _ trivial (fun _ => HBz4.out) ?_
 clear HK KX
 try simp only [Act.put,lA,lB,lC,lD,lE,lF]
 refine RG.wpL_take (fuel:=1) (a':=?Az4x) [14,15] (by kernel_rfl) (by kernel_rfl) (fun _ _ _ _ _ h => h) trivial (fun _ => HBz4.out) ?rz4x ?_
 case rz4x =>
  iterate 2
   refine RG.rW ?_ (fun Z hT => ?_) ?_
   rotate_left
   ·go_simp
    rfl
   simp only [Act.put,lA,lB,lC,lD,lE,lF]
  exact RG.RunsIf.nil
 have HMq:=ζ (HM.out.below HBz4.out)
 have HIq:=ζ (blk_keep HI.out HBz4.out)
 obtain ⟨fz_,cz_,_,_⟩:=HMq.out.last1 HE.out
 rw [HEL.out] at cz_
 have cz:=cz_
 have fz:=fz_ (el * 5 + 2)
 clear fz_ cz_
 refine RG.wpL_late (i:=16) (by kernel_rfl) (by rfl) (by rfl) (by kernel_rfl) (fun KX hK => ?_)
 have HK:=ζ hK
 clear hK
 go_simp
 refine HK.out _ _ trivial ?_
 clear HK KX cz fz
 refine RG.wpL_done (by kernel_rfl) ?_ _
 refine NoPanic.normal ?_
 have HM1 : Hid (PM o (Yz4.setCell ⟨eb,el * 5 + 2,none⟩ (.int .i64 (cj : Int))) g s pa pc { t with evs:=t.evs ++ [⟨(k : Int),13,(cj : Int),0,false⟩] } m):=by
  have:=HMq.out.lastA HE.out (cj : Int)
  rw [HEL.out] at this;exact this
 have HI1 : Hid ((Yz4.setCell ⟨eb,el * 5 + 2,none⟩ (.int .i64 (cj : Int))).heap[gi]? = some (.cells #[.int .i64 13,.int .i64 (ra : Int),.int .i64 (rb : Int),.int .i64 a2] 68 (0,0))):=by
  obtain ⟨cs,hcs⟩:=HEB.out _ _ HMq.out (by simp)
  exact blk_setN HIq.out hcs (by decide)
 clear HMq HIq HM HI z0 z1 z2 z3 c5 x1 xc
 refine HK.out _ _ ?_
 clear HK K
 generalize World.setCell _ _ _ = X1 at *
 obtain ⟨z0,z1,z2,z3⟩:=cellsY4 HI1.out
 refine wp_seq_k fun K hK => ?_
 have HK:=ζ hK
 clear hK
 go_wp2
 obtain ⟨cb',ccap',c5,hcve',_,xc⟩:=HC5.out _ X1 HM1.out HCN.out
 have ecb : cb = cb' ∧ ccap = ccap':=by
  rw [HCVe.out] at hcve'
  injection hcve' with q1 _ q3
  injection q1 with q1
  injection q1 with q1
  exact ⟨q1,q3⟩
 obtain ⟨rfl,rfl⟩:=ecb
 clear hcve'
 obtain ⟨_,xe,_,_⟩:=HM1.out.last1 HE.out
 rw [HEL.out] at xe
 have xq:=HRg.out _ X1 rb HM1.out rfl hrb
 change X1.cell? _ = some (.int .i64 (reg t k (rb : Int))) at xq
 rw [HVb.out] at xq
 refine wp_region_noPanic ?_
 refine RG.wp_region_L (fun Z => Below X1.heap.size X1 Z) (fun Z => True) [16] (by kernel_rfl) ?_
 refine RG.wpL_any fun Yz5 hY => ?_
 have HBz5 : Hid (Below X1.heap.size X1 Yz5):=by rw [hY];exact below_drewN (Below.refl _ _) 1
 clear hY
 refine RG.wpL_take (fuel:=1) (a':=?Az5) [0,1,2,3,4,5,6,7,8,9,10,11,12,13,14,15] (by kernel_rfl) (by kernel_rfl) (fun _ _ _ _ _ h => h) trivial (fun _ => HBz5.out) ?rz5 ?_
 case rz5 =>
  iterate 3
   refine RG.rW ?_ (fun Z hT => ?_) ?_
   rotate_left
   ·go_simp
    rfl
   simp only [Act.put,lA,lB,lC,lD,lE,lF]
  refine RG.RunsIf.strong (v:=.slice (some ⟨cb,0,none⟩) cn ccap) (by rfl) (by kernel_rfl) (by rfl) (fun Z hT hS => ?_) ?_
  ·have y2:=keepC hS z2;have y3:=keepC hS c5;have y4:=keepC hS xe;have y5:=keepC hS xq
   go_simp
  simp only [Act.put,lA,lB,lC,lD,lE,lF]
  iterate 3
   refine RG.rW ?_ (fun Z hT => ?_) ?_
   rotate_left
   ·go_simp
    rfl
   simp only [Act.put,lA,lB,lC,lD,lE,lF]
  refine RG.RunsIf.strong (v:=.int .i64 (cj : Int)) (by rfl) (by kernel_rfl) (by rfl) (fun Z hT hS => ?_) ?_
  ·have y2:=keepC hS z2;have y3:=keepC hS c5;have y4:=keepC hS xe;have y5:=keepC hS xq
   go_simp
  simp only [Act.put,lA,lB,lC,lD,lE,lF]
  iterate 2
   refine RG.rW ?_ (fun Z hT => ?_) ?_
   rotate_left
   ·go_simp
    rfl
   simp only [Act.put,lA,lB,lC,lD,lE,lF]
  refine RG.RunsIf.strong (v:=.int .i64 (rb : Int)) (by rfl) (by kernel_rfl) (by rfl) (fun Z hT hS => ?_) ?_
  ·have y2:=keepC hS z2;have y3:=keepC hS c5;have y4:=keepC hS xe;have y5:=keepC hS xq
   go_simp
  simp only [Act.put,lA,lB,lC,lD,lE,lF]
  iterate 3
   refine RG.rW ?_ (fun Z hT => ?_) ?_
   rotate_left
   ·go_simp
    rfl
   simp only [Act.put,lA,lB,lC,lD,lE,lF]
  refine RG.RunsIf.strong (v:=.int .i64 vb) (by rfl) (by kernel_rfl) (by rfl) (fun Z hT hS => ?_) ?_
  ·have y2:=keepC hS z2;have y3:=keepC hS c5;have y4:=keepC hS xe;have y5:=keepC hS xq
   go_simp
  simp only [Act.put,lA,lB,lC,lD,lE,lF]
  refine RG.rW ?_ (fun Z hT => ?_) ?_
  rotate_left
  ·go_simp
   rfl
  simp only [Act.put,lA,lB,lC,lD,lE,lF]
  exact RG.RunsIf.nil
 have HMq:=ζ (HM1.out.below HBz5.out)
 have HIq:=ζ (blk_keep HI1.out HBz5.out)
 have cz:=keepC HBz5.out xc
 obtain ⟨_,_,_,hcve2,fz,_⟩:=HC5.out _ Yz5 HMq.out HCN.out
 rw [HCVe.out] at hcve2;injection hcve2 with q1 _ _;injection q1 with q1;injection q1 with q1;subst q1
 refine RG.wpL_late (i:=16) (by kernel_rfl) (by rfl) (by rfl) (by kernel_rfl) (fun KX hK => ?_)
 have HK:=ζ hK
 clear hK
 go_simp
 refine HK.out _ _ trivial ?_
 clear HK KX cz fz
 refine RG.wpL_done (by kernel_rfl) ?_ _
 refine NoPanic.normal ?_
 have HM2 : Hid (PM o (Yz5.setCell ⟨cb,cj,none⟩ (.int .i64 vb)) g s pa pc { t with cells:=t.cells.set cj vb,evs:=t.evs ++ [⟨(k : Int),13,(cj : Int),0,false⟩] } m):=HMq.out.setCe (cap:=ccap) (by rw [HCVe.out,← HCN.out]) (by have:=HCL.out;show 0 < t.cells.length;omega) cj vb
 have HI2 : Hid ((Yz5.setCell ⟨cb,cj,none⟩ (.int .i64 vb)).heap[gi]? = some (.cells #[.int .i64 13,.int .i64 (ra : Int),.int .i64 (rb : Int),.int .i64 a2] 68 (0,0))):=by
  obtain ⟨_,cur,hh⟩:=row_is (cap:=ccap) HMq.out.cel (by rw [HCVe.out,← HCN.out]) (by have:=HCL.out;show 0 < t.cells.length;omega)
  exact blk_setN HIq.out hh (by decide)
 clear HMq HIq xq
 clear HM1 HI1 z0 z1 z2 z3 c5 xe xc
 refine HK.out _ _ ?_
 clear HK K
 generalize World.setCell _ _ _ = X2 at *
 obtain ⟨z0,z1,z2,z3⟩:=cellsY4 HI2.out
 have xq : X2.cell? ⟨pk,2 + rb,none⟩ = some (.int .i64 vb):=(HRg.out _ X2 rb HM2.out rfl hrb).trans (by show some (Value.int .i64 (reg t k (rb : Int))) = _;rw [HVb.out])
 refine wp_region_noPanic ?_
 refine RG.wp_region_L (fun Z => Below X2.heap.size X2 Z) (fun Z => True) [10] (by kernel_rfl) ?_
 refine RG.wpL_any fun Yz6 hY => ?_
 have HBz6 : Hid (Below X2.heap.size X2 Yz6):=by rw [hY];exact below_drewN (Below.refl _ _) 1
 clear hY
 refine RG.wpL_take (fuel:=1) (a':=?Az6) [0,1,2,3,4,5,6,7,8,9] (by kernel_rfl) (by kernel_rfl) (fun _ _ _ _ _ h => h) trivial (fun _ => HBz6.out) ?rz6 ?_
 case rz6 =>
  iterate 3
   refine RG.rW ?_ (fun Z hT => ?_) ?_
   rotate_left
   ·go_simp
    rfl
   simp only [Act.put,lA,lB,lC,lD,lE,lF]
  refine RG.RunsIf.strong (v:=.int .i64 (rb : Int)) (by rfl) (by kernel_rfl) (by rfl) (fun Z hT hS => ?_) ?_
  ·have y2:=keepC hS z2;have y5:=keepC hS xq
   go_simp
  simp only [Act.put,lA,lB,lC,lD,lE,lF]
  iterate 3
   refine RG.rW ?_ (fun Z hT => ?_) ?_
   rotate_left
   ·go_simp
    rfl
   simp only [Act.put,lA,lB,lC,lD,lE,lF]
  refine RG.RunsIf.strong (v:=.int .i64 vb) (by rfl) (by kernel_rfl) (by rfl) (fun Z hT hS => ?_) ?_
  ·have y2:=keepC hS z2;have y5:=keepC hS xq
   go_simp
  simp only [Act.put,lA,lB,lC,lD,lE,lF]
  iterate 2
   refine RG.rW ?_ (fun Z hT => ?_) ?_
   rotate_left
   ·go_simp
    rfl
   simp only [Act.put,lA,lB,lC,lD,lE,lF]
  exact RG.RunsIf.nil
 have HMq:=ζ (HM2.out.below HBz6.out)
 obtain ⟨fz_,_,cz_,_⟩:=PM.last1 (t:={ t with cells:=t.cells.set cj vb }) HMq.out HE.out
 change World.cell? _ ⟨eb,t.evs.length * 5 + 3,none⟩ = _ at cz_
 rw [HEL.out] at cz_
 have cz:=cz_
 have fz:=fz_ (el * 5 + 3)
 clear fz_ cz_
 refine RG.wpL_late (i:=10) (by kernel_rfl) (by rfl) (by rfl) (by kernel_rfl) (fun KX hK => ?_)
 have HK:=ζ hK
 clear hK
 go_simp
 refine HK.out _ _ trivial ?_
 clear HK KX cz fz
 refine RG.wpL_done (by kernel_rfl) ?_ _
 refine NoPanic.normal ?_
 have HM3:=ζ (PM.lastV (t:={ t with cells:=t.cells.set cj vb }) HMq.out HE.out vb)
 clear HMq HM2 HI2
 go_end0
 refine HP.out _ ?_
 have:=HM3.out
 change PM o (World.setCell _ ⟨eb,t.evs.length * 5 + 3,none⟩ _) g s pa pc _ _ at this
 rw [HEL.out] at this
 exact this
end LW
end Go.Proofs.Ytfbnakmmmphedaa
