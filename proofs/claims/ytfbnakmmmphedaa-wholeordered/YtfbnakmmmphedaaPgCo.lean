/-
 What an instruction that shares does: locks, groups, works.
-/
import Derived.Test.YtfbnakmmmphedaaPgBo
set_option linter.unusedVariables false
set_option linter.unusedSimpArgs false
set_option maxRecDepth 100000
set_option maxHeartbeats 4000000
namespace Go.Proofs.Ytfbnakmmmphedaa
open Go.RowKit
namespace LW
open Mc
theorem psh8 {o : World} {g : Nat} {s : Syst} {pa : Option Addr} {pc : Nat} {t : St} {m : PV} (k c p : Nat) (a1 a2 : Int) (eb ecap : Nat) (w : World) (h : PM o w g s pa pc { t with evs:=t.evs ++ [⟨(k : Int),8,0,0,false⟩] } m) (ho : Mc.Ok s) (hg : Mc.Good s t) (hk : k < t.rns.length) (hin : Mc.ins s t k = ⟨8,(c : Int),a1,a2⟩) (hpo : (Mc.rn t k).pos = (p : Int)) (hat : aT s (Mc.rn t k) = (p : Int)) (hp1 : p ≤ 256) (hc : c < t.locked.length) (he : m.ev = .slice (some ⟨eb,0,none⟩) (t.evs.length + 1) ecap) :
  Calls Try.prog 56 #[.pointer (some ⟨g,0,none⟩),.pointer (some ⟨m.ps.getD k 0,0,none⟩),.agg #[.int .i64 8,.int .i64 (c : Int),.int .i64 a1,.int .i64 a2],.pointer (some ⟨eb,t.evs.length * 5,none⟩)] w (DoQ o g s pa pc t m k):=by
 obtain ⟨POST,hP⟩ : ∃ P,P = DoQ o g s pa pc t m k:=⟨_,rfl⟩
 have HPo:=ζ hP
 rw [← hP]
 clear hP
 have h8:=(hg.gr k hk).rl
 have hA0 : Below w.heap.size w (w.alloc (.cells #[.int .i64 8,.int .i64 (c : Int),.int .i64 a1,.int .i64 a2] 68)):=(Below.refl _ _).alloc (Nat.le_refl _) _
 have NI0 : (w.alloc (.cells #[.int .i64 8,.int .i64 (c : Int),.int .i64 a1,.int .i64 a2] 68)).heap[w.heap.size]? = some (.cells #[.int .i64 8,.int .i64 (c : Int),.int .i64 a1,.int .i64 a2] 68 (0,0)):=heap_alloc_new w _
 have HM:=ζ (h.below hA0)
 have HI:=ζ NI0
 have HE:=ζ he
 have H8:=ζ h8
 have HKk:=ζ hk
 have HIn:=ζ hin
 have HPp:=ζ hpo
 have HG:=ζ hg
 have HOk:=ζ ho
 have x1 : (w.alloc (.cells #[.int .i64 8,.int .i64 (c : Int),.int .i64 a1,.int .i64 a2] 68)).cell? ⟨m.ps.getD k 0,1,none⟩ = some (.int .i64 (p : Int)):=by rw [← hat];exact (HM.out.at1 k hk).1
 have HEB : Hid (∀ (W : World) (u : St),PM o W g s pa pc u m → u.evs.length = t.evs.length + 1 → ∃ cs,W.heap[eb]? = some (.cells cs 39 (0,0))):=fun W u hW hl => by
  obtain ⟨_,cur,hh⟩:=row_is (cap:=ecap) hW.evs (by rw [he,hl]) (by omega)
  exact ⟨cur,hh⟩
 have HRg : Hid (∀ (u : St) (W : World) (r : Nat),PM o W g s pa pc u m → u.rns.length = t.rns.length → r < 8 → W.cell? ⟨m.ps.getD k 0,2 + r,none⟩ = some (.int .i64 (reg u k (r : Int)))):=fun u W r hW hl hr => hW.reg1 k (by rw [hl];exact hk) r hr
 have HRf : Hid (∀ (u : St) (W : World),PM o W g s pa pc u m → u.rns.length = t.rns.length → ∀ j,W.frozen? ⟨m.ps.getD k 0,j,none⟩ = false):=fun u W hW hl j => hW.rfz k (by rw [hl];exact hk) j
 have HRB : Hid (∀ (u : St) (W : World),PM o W g s pa pc u m → u.rns.length = t.rns.length → ∃ cs,W.heap[m.ps.getD k 0]? = some (.cells cs 75 (0,0))):=fun u W hW hl => ⟨_,hW.rnB k (by rw [hl];exact hk)⟩
 have ep : IntKind.i64.wrap ((p : Int) + 1) = (p : Int) + 1:=by rw [IntKind.wrap_i64];omega
 have hF_:=F8 (s:=s) (t:=t) (k:=k) (by rw [hin])
 try simp only [hin,hpo,Int.toNat_natCast] at hF_
 have HF:=ζ hF_
 clear hF_
 have q1 : (c : Int) < (t.locked.length : Int):=by omega
 have q0 : (0 : Int) ≤ (c : Int):=by omega
 obtain ⟨pk,hpk⟩ : ∃ pk,m.ps.getD k 0 = pk:=⟨_,rfl⟩
 have HPK:=ζ hpk
 rw [hpk] at HRg HRf HRB x1 ⊢
 obtain ⟨el,hel⟩ : ∃ el,t.evs.length = el:=⟨_,rfl⟩
 have HEL:=ζ hel
 rw [hel] at ⊢
 obtain ⟨fz_,cz_,_,_⟩:=HM.out.last1 he
 rw [hel] at cz_
 have fz:=fz_ (el * 5 + 2)
 have HM1 : Hid (PM o ((w.alloc (.cells #[.int .i64 8,.int .i64 (c : Int),.int .i64 a1,.int .i64 a2] 68)).setCell ⟨eb,el * 5 + 2,none⟩ (.int .i64 (c : Int))) g s pa pc { t with evs:=t.evs ++ [⟨(k : Int),8,(c : Int),0,false⟩] } m):=by
  have:=HM.out.lastA he (c : Int)
  rw [hel] at this;exact this
 have HI1 : Hid (((w.alloc (.cells #[.int .i64 8,.int .i64 (c : Int),.int .i64 a1,.int .i64 a2] 68)).setCell ⟨eb,el * 5 + 2,none⟩ (.int .i64 (c : Int))).heap[w.heap.size]? = some (.cells #[.int .i64 8,.int .i64 (c : Int),.int .i64 a1,.int .i64 a2] 68 (0,0))):=by
  obtain ⟨cs,hcs⟩:=HEB.out _ _ HM.out (by simp)
  exact blk_setN HI.out hcs (by decide)
 clear h hA0 NI0 he h8 hin hpo hat hg ho hk hpk hel fz_ hp1
 go_enter Try.func56,Try.ntmps56
 refine wp_seq_k fun K0 hK0 => ?_
 have HK0:=ζ hK0
 clear hK0
 go_wp2
 refine HK0.out _ _ ?_
 clear HK0 K0
 generalize w.alloc _ = X at *
 generalize w.heap.size = gi at *
 obtain ⟨z0,z1,z2,z3⟩:=cellsY4 HI.out
 refine wp_seq_k fun K0 hK0 => ?_
 have HK0:=ζ hK0
 clear hK0
 go_wp2
 refine HK0.out _ _ ?_
 clear HK0 K0 x1 ep
 refine wp_seq_k fun K0 hK0 => ?_
 have HK0:=ζ hK0
 clear hK0
 go_wp2
 refine HK0.out _ _ ?_
 clear HK0 K0 HM HI z0 z1 z2 z3 fz cz_
 generalize World.setCell _ _ _ = X1 at *
 obtain ⟨z0,z1,z2,z3⟩:=cellsY4 HI1.out
 refine wp_seq_q fun KT QT hKT hNT hOT => ?_
 have HKT:=ζ hKT
 have HNT:=ζ hNT
 have HOT:=ζ hOT
 clear hKT hNT hOT
 refine wp_seq_k fun K0 hK0 => ?_
 have HK0:=ζ hK0
 clear hK0
 go_wp2
 refine HK0.out _ _ ?_
 clear HK0 K0
 refine wp_block_q fun Q0 hN0 hE0 hO0 => ?_
 have HN0:=ζ hN0
 have HE0:=ζ hE0
 have HO0:=ζ hO0
 clear hN0 hE0 hO0
 refine wp_seq_block_q fun Kb8 Q8 hKb8 hN8 hE8 hO8 => ?_
 have HKb8:=ζ hKb8
 have HN8:=ζ hN8
 have HE8:=ζ hE8
 have HO8:=ζ hO8
 clear hKb8 hN8 hE8 hO8
 refine wp_seq_block_q fun Kb7 Q7 hKb7 hN7 hE7 hO7 => ?_
 have HKb7:=ζ hKb7
 have HN7:=ζ hN7
 have HE7:=ζ hE7
 have HO7:=ζ hO7
 clear hKb7 hN7 hE7 hO7
 refine wp_seq_block_q fun Kb6 Q6 hKb6 hN6 hE6 hO6 => ?_
 have HKb6:=ζ hKb6
 have HN6:=ζ hN6
 have HE6:=ζ hE6
 have HO6:=ζ hO6
 clear hKb6 hN6 hE6 hO6
 refine wp_seq_block_q fun Kb5 Q5 hKb5 hN5 hE5 hO5 => ?_
 have HKb5:=ζ hKb5
 have HN5:=ζ hN5
 have HE5:=ζ hE5
 have HO5:=ζ hO5
 clear hKb5 hN5 hE5 hO5
 refine wp_seq_block_q fun Kb4 Q4 hKb4 hN4 hE4 hO4 => ?_
 have HKb4:=ζ hKb4
 have HN4:=ζ hN4
 have HE4:=ζ hE4
 have HO4:=ζ hO4
 clear hKb4 hN4 hE4 hO4
 refine wp_seq_block_q fun Kb3 Q3 hKb3 hN3 hE3 hO3 => ?_
 have HKb3:=ζ hKb3
 have HN3:=ζ hN3
 have HE3:=ζ hE3
 have HO3:=ζ hO3
 clear hKb3 hN3 hE3 hO3
 refine wp_seq_block_q fun Kb2 Q2 hKb2 hN2 hE2 hO2 => ?_
 have HKb2:=ζ hKb2
 have HN2:=ζ hN2
 have HE2:=ζ hE2
 have HO2:=ζ hO2
 clear hKb2 hN2 hE2 hO2
 refine wp_seq_block_q fun Kb1 Q1 hKb1 hN1 hE1 hO1 => ?_
 have HKb1:=ζ hKb1
 have HN1:=ζ hN1
 have HE1:=ζ hE1
 have HO1:=ζ hO1
 clear hKb1 hN1 hE1 hO1
 have HX8 : Hid (∀ a w,Kb8 a w → Q1 (.exit 8) a w):=fun a w hk => xZ HO1 8 (xZ HO2 8 (xZ HO3 8 (xZ HO4 8 (xZ HO5 8 (xZ HO6 8 (xZ HO7 8 (HE8.out a w hk)))))))
 have HR8 : Hid (∀ a w,_ → Q0 .ret a w):=fun a w hq => xR HO0 (xR HOT hq)
 have HP8 : Hid (∀ c a w,_ → Q0 (.panic c) a w):=fun c a w hq => xP HO0 (xP HOT hq)
 have HZ8 : Hid (∀ a w,KT a w → Q0 (.exit 0) a w):=fun a w hk => HE0.out a w (HNT.out a w hk)
 have HX7 : Hid (∀ a w,Kb7 a w → Q1 (.exit 7) a w):=fun a w hk => xZ HO1 7 (xZ HO2 7 (xZ HO3 7 (xZ HO4 7 (xZ HO5 7 (xZ HO6 7 (HE7.out a w hk))))))
 have HR7 : Hid (∀ a w,_ → Q8 .ret a w):=fun a w hq => xR HO8 (xR HO0 (xR HOT hq))
 have HP7 : Hid (∀ c a w,_ → Q8 (.panic c) a w):=fun c a w hq => xP HO8 (xP HO0 (xP HOT hq))
 have HZ7 : Hid (∀ a w,KT a w → Q8 (.exit 0) a w):=fun a w hk => xZ HO8 0 (HE0.out a w (HNT.out a w hk))
 have HX6 : Hid (∀ a w,Kb6 a w → Q1 (.exit 6) a w):=fun a w hk => xZ HO1 6 (xZ HO2 6 (xZ HO3 6 (xZ HO4 6 (xZ HO5 6 (HE6.out a w hk)))))
 have HR6 : Hid (∀ a w,_ → Q7 .ret a w):=fun a w hq => xR HO7 (xR HO8 (xR HO0 (xR HOT hq)))
 have HP6 : Hid (∀ c a w,_ → Q7 (.panic c) a w):=fun c a w hq => xP HO7 (xP HO8 (xP HO0 (xP HOT hq)))
 have HZ6 : Hid (∀ a w,KT a w → Q7 (.exit 0) a w):=fun a w hk => xZ HO7 0 (xZ HO8 0 (HE0.out a w (HNT.out a w hk)))
 have HX5 : Hid (∀ a w,Kb5 a w → Q1 (.exit 5) a w):=fun a w hk => xZ HO1 5 (xZ HO2 5 (xZ HO3 5 (xZ HO4 5 (HE5.out a w hk))))
 have HR5 : Hid (∀ a w,_ → Q6 .ret a w):=fun a w hq => xR HO6 (xR HO7 (xR HO8 (xR HO0 (xR HOT hq))))
 have HP5 : Hid (∀ c a w,_ → Q6 (.panic c) a w):=fun c a w hq => xP HO6 (xP HO7 (xP HO8 (xP HO0 (xP HOT hq))))
 have HZ5 : Hid (∀ a w,KT a w → Q6 (.exit 0) a w):=fun a w hk => xZ HO6 0 (xZ HO7 0 (xZ HO8 0 (HE0.out a w (HNT.out a w hk))))
 have HX4 : Hid (∀ a w,Kb4 a w → Q1 (.exit 4) a w):=fun a w hk => xZ HO1 4 (xZ HO2 4 (xZ HO3 4 (HE4.out a w hk)))
 have HR4 : Hid (∀ a w,_ → Q5 .ret a w):=fun a w hq => xR HO5 (xR HO6 (xR HO7 (xR HO8 (xR HO0 (xR HOT hq)))))
 have HP4 : Hid (∀ c a w,_ → Q5 (.panic c) a w):=fun c a w hq => xP HO5 (xP HO6 (xP HO7 (xP HO8 (xP HO0 (xP HOT hq)))))
 have HZ4 : Hid (∀ a w,KT a w → Q5 (.exit 0) a w):=fun a w hk => xZ HO5 0 (xZ HO6 0 (xZ HO7 0 (xZ HO8 0 (HE0.out a w (HNT.out a w hk)))))
 have HX3 : Hid (∀ a w,Kb3 a w → Q1 (.exit 3) a w):=fun a w hk => xZ HO1 3 (xZ HO2 3 (HE3.out a w hk))
 have HR3 : Hid (∀ a w,_ → Q4 .ret a w):=fun a w hq => xR HO4 (xR HO5 (xR HO6 (xR HO7 (xR HO8 (xR HO0 (xR HOT hq))))))
 have HP3 : Hid (∀ c a w,_ → Q4 (.panic c) a w):=fun c a w hq => xP HO4 (xP HO5 (xP HO6 (xP HO7 (xP HO8 (xP HO0 (xP HOT hq))))))
 have HZ3 : Hid (∀ a w,KT a w → Q4 (.exit 0) a w):=fun a w hk => xZ HO4 0 (xZ HO5 0 (xZ HO6 0 (xZ HO7 0 (xZ HO8 0 (HE0.out a w (HNT.out a w hk))))))
 have HX2 : Hid (∀ a w,Kb2 a w → Q1 (.exit 2) a w):=fun a w hk => xZ HO1 2 (HE2.out a w hk)
 have HR2 : Hid (∀ a w,_ → Q3 .ret a w):=fun a w hq => xR HO3 (xR HO4 (xR HO5 (xR HO6 (xR HO7 (xR HO8 (xR HO0 (xR HOT hq)))))))
 have HP2 : Hid (∀ c a w,_ → Q3 (.panic c) a w):=fun c a w hq => xP HO3 (xP HO4 (xP HO5 (xP HO6 (xP HO7 (xP HO8 (xP HO0 (xP HOT hq)))))))
 have HZ2 : Hid (∀ a w,KT a w → Q3 (.exit 0) a w):=fun a w hk => xZ HO3 0 (xZ HO4 0 (xZ HO5 0 (xZ HO6 0 (xZ HO7 0 (xZ HO8 0 (HE0.out a w (HNT.out a w hk)))))))
 have HX1 : Hid (∀ a w,Kb1 a w → Q1 (.exit 1) a w):=fun a w hk => HE1.out a w hk
 have HR1 : Hid (∀ a w,_ → Q2 .ret a w):=fun a w hq => xR HO2 (xR HO3 (xR HO4 (xR HO5 (xR HO6 (xR HO7 (xR HO8 (xR HO0 (xR HOT hq))))))))
 have HP1 : Hid (∀ c a w,_ → Q2 (.panic c) a w):=fun c a w hq => xP HO2 (xP HO3 (xP HO4 (xP HO5 (xP HO6 (xP HO7 (xP HO8 (xP HO0 (xP HOT hq))))))))
 have HZ1 : Hid (∀ a w,KT a w → Q2 (.exit 0) a w):=fun a w hk => xZ HO2 0 (xZ HO3 0 (xZ HO4 0 (xZ HO5 0 (xZ HO6 0 (xZ HO7 0 (xZ HO8 0 (HE0.out a w (HNT.out a w hk))))))))
 have HZx : Hid (∀ a w,KT a w → Q1 (.exit 0) a w):=fun a w hk => xZ HO1 0 (xZ HO2 0 (xZ HO3 0 (xZ HO4 0 (xZ HO5 0 (xZ HO6 0 (xZ HO7 0 (xZ HO8 0 (HE0.out a w (HNT.out a w hk)))))))))
 clear HE0 HO0 HE8 HO8 HE7 HO7 HE6 HO6 HE5 HO5 HE4 HO4 HE3 HO3 HE2 HO2 HE1 HO1 HN0 HNT
 refine wp_seq_k fun Kx hKx => ?_
 have HKx:=ζ hKx
 clear hKx
 refine wp_seq_k fun Kr hKr => ?_
 have HKr:=ζ hKr
 clear hKr
 go_wp2
 refine HKr.out _ _ ?_
 clear HKr Kr
 refine wp_seq_k fun Kr hKr => ?_
 have HKr:=ζ hKr
 clear hKr
 go_wp2
 refine HKr.out _ _ ?_
 clear HKr Kr
 refine wp_seq_k fun Kr hKr => ?_
 have HKr:=ζ hKr
 clear hKr
 go_wp2
 refine HKr.out _ _ ?_
 clear HKr Kr
 refine wp_seq_k fun Kr hKr => ?_
 have HKr:=ζ hKr
 clear hKr
 go_wp2
 refine HKr.out _ _ ?_
 clear HKr Kr
 refine wp_seq_k fun Kr hKr => ?_
 have HKr:=ζ hKr
 clear hKr
 go_wp2
 refine HX5.out _ _ ?_
 refine HKb5.out _ _ ?_
 obtain ⟨lb,lcp,e4,_,_,x0⟩:=HM1.out.lk1 c hc
 change m.lv = .slice (some ⟨lb,0,none⟩) t.locked.length lcp at e4
 have c4:=HM1.out.c4
 rw [e4] at c4
 have HE4:=ζ e4
 clear e4
 have HLN : Hid (0 < t.locked.length):=by show 0 < _;omega
 have HLC:=ζ hc
 clear hc
 obtain ⟨ln,hln⟩ : ∃ ln,t.locked.length = ln:=⟨_,rfl⟩
 have HLn:=ζ hln
 rw [hln] at q1 c4
 clear hln
 refine wp_seq_k fun Kq hKq => ?_
 have HKq:=ζ hKq
 clear hKq
 refine wp_region_noPanic ?_
 refine RG.wp_region_L (fun Z => Below X1.heap.size X1 Z) (fun Z => True) [7] (by kernel_rfl) ?_
 refine RG.wpL_any fun Yz1 hY => ?_
 have HBz1 : Hid (Below X1.heap.size X1 Yz1):=by rw [hY];exact below_drewN (Below.refl _ _) 1
 clear hY
 refine RG.wpL_take (fuel:=1) (a':=?Az1) [0,1,2,3,4,5,6] (by kernel_rfl) (by kernel_rfl) (fun _ _ _ _ _ h => h) trivial (fun _ => HBz1.out) ?rz1 ?_
 case rz1 =>
  iterate 3
   refine RG.rW ?_ (fun Z hT => ?_) ?_
   rotate_left
   ·go_simp
    rfl
   simp only [Act.put,lA,lB,lC,lD,lE,lF]
  refine RG.RunsIf.strong (v:=.slice (some ⟨lb,0,none⟩) ln lcp) (by rfl) (by kernel_rfl) (by rfl) (fun Z hT hS => ?_) ?_
  ·have y1:=keepC hS z1;have y2:=keepC hS c4
   go_simp
  simp only [Act.put,lA,lB,lC,lD,lE,lF]
  refine RG.rW ?_ (fun Z hT => ?_) ?_
  rotate_left
  ·go_simp
   rfl
  simp only [Act.put,lA,lB,lC,lD,lE,lF]
  refine RG.RunsIf.strong (v:=.int .i64 (c : Int)) (by rfl) (by kernel_rfl) (by rfl) (fun Z hT hS => ?_) ?_
  ·have y1:=keepC hS z1;have y2:=keepC hS c4
   go_simp
  simp only [Act.put,lA,lB,lC,lD,lE,lF]
  refine RG.rW ?_ (fun Z hT => ?_) ?_
  rotate_left
  ·go_simp
   rfl
  simp only [Act.put,lA,lB,lC,lD,lE,lF]
  exact RG.RunsIf.nil
 have HMq:=ζ (HM1.out.below HBz1.out)
 have cz:=keepC HBz1.out x0
 obtain ⟨_,_,e4_,_,fz,_⟩:=HMq.out.lk1 c HLC.out
 change m.lv = _ at e4_
 rw [HE4.out] at e4_;injection e4_ with e4_ _ _;injection e4_ with e4_;injection e4_ with e4_;subst e4_
 refine RG.wpL_late (i:=7) (by kernel_rfl) (by rfl) (by rfl) (by kernel_rfl) (fun KX hK => ?_)
 have HK:=ζ hK
 clear hK
 go_simp
 refine HK.out _ _ trivial ?_
 clear HK KX cz fz
 refine RG.wpL_done (by kernel_rfl) ?_ _
 refine NoPanic.normal ?_
 have HM2:=ζ (HMq.out.setLk HE4.out HLN.out c true)
 refine HKq.out _ _ ?_
 go_wp2
 refine HZ5.out _ _ ?_
 refine HKT.out _ _ ?_
 go_wp2
 rw [HPo.out]
 exact DoQ.ok_ HF.out ⟨rfl,rfl,rfl,rfl,rfl⟩ rfl HM2.out
theorem psh11 {o : World} {g : Nat} {s : Syst} {pa : Option Addr} {pc : Nat} {t : St} {m : PV} (k c p : Nat) (a1 a2 : Int) (eb ecap : Nat) (w : World) (h : PM o w g s pa pc { t with evs:=t.evs ++ [⟨(k : Int),11,0,0,false⟩] } m) (ho : Mc.Ok s) (hg : Mc.Good s t) (hk : k < t.rns.length) (hin : Mc.ins s t k = ⟨11,(c : Int),a1,a2⟩) (hpo : (Mc.rn t k).pos = (p : Int)) (hat : aT s (Mc.rn t k) = (p : Int)) (hp1 : p ≤ 256)  (he : m.ev = .slice (some ⟨eb,0,none⟩) (t.evs.length + 1) ecap) :
  Calls Try.prog 56 #[.pointer (some ⟨g,0,none⟩),.pointer (some ⟨m.ps.getD k 0,0,none⟩),.agg #[.int .i64 11,.int .i64 (c : Int),.int .i64 a1,.int .i64 a2],.pointer (some ⟨eb,t.evs.length * 5,none⟩)] w (DoQ o g s pa pc t m k):=by
 obtain ⟨POST,hP⟩ : ∃ P,P = DoQ o g s pa pc t m k:=⟨_,rfl⟩
 have HPo:=ζ hP
 rw [← hP]
 clear hP
 have h8:=(hg.gr k hk).rl
 have hA0 : Below w.heap.size w (w.alloc (.cells #[.int .i64 11,.int .i64 (c : Int),.int .i64 a1,.int .i64 a2] 68)):=(Below.refl _ _).alloc (Nat.le_refl _) _
 have NI0 : (w.alloc (.cells #[.int .i64 11,.int .i64 (c : Int),.int .i64 a1,.int .i64 a2] 68)).heap[w.heap.size]? = some (.cells #[.int .i64 11,.int .i64 (c : Int),.int .i64 a1,.int .i64 a2] 68 (0,0)):=heap_alloc_new w _
 have HM:=ζ (h.below hA0)
 have HI:=ζ NI0
 have HE:=ζ he
 have H8:=ζ h8
 have HKk:=ζ hk
 have HIn:=ζ hin
 have HPp:=ζ hpo
 have HG:=ζ hg
 have HOk:=ζ ho
 have x1 : (w.alloc (.cells #[.int .i64 11,.int .i64 (c : Int),.int .i64 a1,.int .i64 a2] 68)).cell? ⟨m.ps.getD k 0,1,none⟩ = some (.int .i64 (p : Int)):=by rw [← hat];exact (HM.out.at1 k hk).1
 have HEB : Hid (∀ (W : World) (u : St),PM o W g s pa pc u m → u.evs.length = t.evs.length + 1 → ∃ cs,W.heap[eb]? = some (.cells cs 39 (0,0))):=fun W u hW hl => by
  obtain ⟨_,cur,hh⟩:=row_is (cap:=ecap) hW.evs (by rw [he,hl]) (by omega)
  exact ⟨cur,hh⟩
 have HRg : Hid (∀ (u : St) (W : World) (r : Nat),PM o W g s pa pc u m → u.rns.length = t.rns.length → r < 8 → W.cell? ⟨m.ps.getD k 0,2 + r,none⟩ = some (.int .i64 (reg u k (r : Int)))):=fun u W r hW hl hr => hW.reg1 k (by rw [hl];exact hk) r hr
 have HRf : Hid (∀ (u : St) (W : World),PM o W g s pa pc u m → u.rns.length = t.rns.length → ∀ j,W.frozen? ⟨m.ps.getD k 0,j,none⟩ = false):=fun u W hW hl j => hW.rfz k (by rw [hl];exact hk) j
 have HRB : Hid (∀ (u : St) (W : World),PM o W g s pa pc u m → u.rns.length = t.rns.length → ∃ cs,W.heap[m.ps.getD k 0]? = some (.cells cs 75 (0,0))):=fun u W hW hl => ⟨_,hW.rnB k (by rw [hl];exact hk)⟩
 have ep : IntKind.i64.wrap ((p : Int) + 1) = (p : Int) + 1:=by rw [IntKind.wrap_i64];omega
 have hF_:=F11 (s:=s) (t:=t) (k:=k) (by rw [hin])
 try simp only [hin,hpo,Int.toNat_natCast] at hF_
 have HF:=ζ hF_
 clear hF_
 obtain ⟨pk,hpk⟩ : ∃ pk,m.ps.getD k 0 = pk:=⟨_,rfl⟩
 have HPK:=ζ hpk
 rw [hpk] at HRg HRf HRB x1 ⊢
 obtain ⟨el,hel⟩ : ∃ el,t.evs.length = el:=⟨_,rfl⟩
 have HEL:=ζ hel
 rw [hel] at ⊢
 obtain ⟨fz_,cz_,_,_⟩:=HM.out.last1 he
 rw [hel] at cz_
 have fz:=fz_ (el * 5 + 2)
 have HM1 : Hid (PM o ((w.alloc (.cells #[.int .i64 11,.int .i64 (c : Int),.int .i64 a1,.int .i64 a2] 68)).setCell ⟨eb,el * 5 + 2,none⟩ (.int .i64 (c : Int))) g s pa pc { t with evs:=t.evs ++ [⟨(k : Int),11,(c : Int),0,false⟩] } m):=by
  have:=HM.out.lastA he (c : Int)
  rw [hel] at this;exact this
 have HI1 : Hid (((w.alloc (.cells #[.int .i64 11,.int .i64 (c : Int),.int .i64 a1,.int .i64 a2] 68)).setCell ⟨eb,el * 5 + 2,none⟩ (.int .i64 (c : Int))).heap[w.heap.size]? = some (.cells #[.int .i64 11,.int .i64 (c : Int),.int .i64 a1,.int .i64 a2] 68 (0,0))):=by
  obtain ⟨cs,hcs⟩:=HEB.out _ _ HM.out (by simp)
  exact blk_setN HI.out hcs (by decide)
 clear h hA0 NI0 he h8 hin hpo hat hg ho hk hpk hel fz_ hp1
 go_enter Try.func56,Try.ntmps56
 refine wp_seq_k fun K0 hK0 => ?_
 have HK0:=ζ hK0
 clear hK0
 go_wp2
 refine HK0.out _ _ ?_
 clear HK0 K0
 generalize w.alloc _ = X at *
 generalize w.heap.size = gi at *
 obtain ⟨z0,z1,z2,z3⟩:=cellsY4 HI.out
 refine wp_seq_k fun K0 hK0 => ?_
 have HK0:=ζ hK0
 clear hK0
 go_wp2
 refine HK0.out _ _ ?_
 clear HK0 K0 x1 ep
 refine wp_seq_k fun K0 hK0 => ?_
 have HK0:=ζ hK0
 clear hK0
 go_wp2
 refine HK0.out _ _ ?_
 clear HK0 K0 HM HI z0 z1 z2 z3 fz cz_
 generalize World.setCell _ _ _ = X1 at *
 obtain ⟨z0,z1,z2,z3⟩:=cellsY4 HI1.out
 refine wp_seq_q fun KT QT hKT hNT hOT => ?_
 have HKT:=ζ hKT
 have HNT:=ζ hNT
 have HOT:=ζ hOT
 clear hKT hNT hOT
 refine wp_seq_k fun K0 hK0 => ?_
 have HK0:=ζ hK0
 clear hK0
 go_wp2
 refine HK0.out _ _ ?_
 clear HK0 K0
 refine wp_block_q fun Q0 hN0 hE0 hO0 => ?_
 have HN0:=ζ hN0
 have HE0:=ζ hE0
 have HO0:=ζ hO0
 clear hN0 hE0 hO0
 refine wp_seq_block_q fun Kb8 Q8 hKb8 hN8 hE8 hO8 => ?_
 have HKb8:=ζ hKb8
 have HN8:=ζ hN8
 have HE8:=ζ hE8
 have HO8:=ζ hO8
 clear hKb8 hN8 hE8 hO8
 refine wp_seq_block_q fun Kb7 Q7 hKb7 hN7 hE7 hO7 => ?_
 have HKb7:=ζ hKb7
 have HN7:=ζ hN7
 have HE7:=ζ hE7
 have HO7:=ζ hO7
 clear hKb7 hN7 hE7 hO7
 refine wp_seq_block_q fun Kb6 Q6 hKb6 hN6 hE6 hO6 => ?_
 have HKb6:=ζ hKb6
 have HN6:=ζ hN6
 have HE6:=ζ hE6
 have HO6:=ζ hO6
 clear hKb6 hN6 hE6 hO6
 refine wp_seq_block_q fun Kb5 Q5 hKb5 hN5 hE5 hO5 => ?_
 have HKb5:=ζ hKb5
 have HN5:=ζ hN5
 have HE5:=ζ hE5
 have HO5:=ζ hO5
 clear hKb5 hN5 hE5 hO5
 refine wp_seq_block_q fun Kb4 Q4 hKb4 hN4 hE4 hO4 => ?_
 have HKb4:=ζ hKb4
 have HN4:=ζ hN4
 have HE4:=ζ hE4
 have HO4:=ζ hO4
 clear hKb4 hN4 hE4 hO4
 refine wp_seq_block_q fun Kb3 Q3 hKb3 hN3 hE3 hO3 => ?_
 have HKb3:=ζ hKb3
 have HN3:=ζ hN3
 have HE3:=ζ hE3
 have HO3:=ζ hO3
 clear hKb3 hN3 hE3 hO3
 refine wp_seq_block_q fun Kb2 Q2 hKb2 hN2 hE2 hO2 => ?_
 have HKb2:=ζ hKb2
 have HN2:=ζ hN2
 have HE2:=ζ hE2
 have HO2:=ζ hO2
 clear hKb2 hN2 hE2 hO2
 refine wp_seq_block_q fun Kb1 Q1 hKb1 hN1 hE1 hO1 => ?_
 have HKb1:=ζ hKb1
 have HN1:=ζ hN1
 have HE1:=ζ hE1
 have HO1:=ζ hO1
 clear hKb1 hN1 hE1 hO1
 have HX8 : Hid (∀ a w,Kb8 a w → Q1 (.exit 8) a w):=fun a w hk => xZ HO1 8 (xZ HO2 8 (xZ HO3 8 (xZ HO4 8 (xZ HO5 8 (xZ HO6 8 (xZ HO7 8 (HE8.out a w hk)))))))
 have HR8 : Hid (∀ a w,_ → Q0 .ret a w):=fun a w hq => xR HO0 (xR HOT hq)
 have HP8 : Hid (∀ c a w,_ → Q0 (.panic c) a w):=fun c a w hq => xP HO0 (xP HOT hq)
 have HZ8 : Hid (∀ a w,KT a w → Q0 (.exit 0) a w):=fun a w hk => HE0.out a w (HNT.out a w hk)
 have HX7 : Hid (∀ a w,Kb7 a w → Q1 (.exit 7) a w):=fun a w hk => xZ HO1 7 (xZ HO2 7 (xZ HO3 7 (xZ HO4 7 (xZ HO5 7 (xZ HO6 7 (HE7.out a w hk))))))
 have HR7 : Hid (∀ a w,_ → Q8 .ret a w):=fun a w hq => xR HO8 (xR HO0 (xR HOT hq))
 have HP7 : Hid (∀ c a w,_ → Q8 (.panic c) a w):=fun c a w hq => xP HO8 (xP HO0 (xP HOT hq))
 have HZ7 : Hid (∀ a w,KT a w → Q8 (.exit 0) a w):=fun a w hk => xZ HO8 0 (HE0.out a w (HNT.out a w hk))
 have HX6 : Hid (∀ a w,Kb6 a w → Q1 (.exit 6) a w):=fun a w hk => xZ HO1 6 (xZ HO2 6 (xZ HO3 6 (xZ HO4 6 (xZ HO5 6 (HE6.out a w hk)))))
 have HR6 : Hid (∀ a w,_ → Q7 .ret a w):=fun a w hq => xR HO7 (xR HO8 (xR HO0 (xR HOT hq)))
 have HP6 : Hid (∀ c a w,_ → Q7 (.panic c) a w):=fun c a w hq => xP HO7 (xP HO8 (xP HO0 (xP HOT hq)))
 have HZ6 : Hid (∀ a w,KT a w → Q7 (.exit 0) a w):=fun a w hk => xZ HO7 0 (xZ HO8 0 (HE0.out a w (HNT.out a w hk)))
 have HX5 : Hid (∀ a w,Kb5 a w → Q1 (.exit 5) a w):=fun a w hk => xZ HO1 5 (xZ HO2 5 (xZ HO3 5 (xZ HO4 5 (HE5.out a w hk))))
 have HR5 : Hid (∀ a w,_ → Q6 .ret a w):=fun a w hq => xR HO6 (xR HO7 (xR HO8 (xR HO0 (xR HOT hq))))
 have HP5 : Hid (∀ c a w,_ → Q6 (.panic c) a w):=fun c a w hq => xP HO6 (xP HO7 (xP HO8 (xP HO0 (xP HOT hq))))
 have HZ5 : Hid (∀ a w,KT a w → Q6 (.exit 0) a w):=fun a w hk => xZ HO6 0 (xZ HO7 0 (xZ HO8 0 (HE0.out a w (HNT.out a w hk))))
 have HX4 : Hid (∀ a w,Kb4 a w → Q1 (.exit 4) a w):=fun a w hk => xZ HO1 4 (xZ HO2 4 (xZ HO3 4 (HE4.out a w hk)))
 have HR4 : Hid (∀ a w,_ → Q5 .ret a w):=fun a w hq => xR HO5 (xR HO6 (xR HO7 (xR HO8 (xR HO0 (xR HOT hq)))))
 have HP4 : Hid (∀ c a w,_ → Q5 (.panic c) a w):=fun c a w hq => xP HO5 (xP HO6 (xP HO7 (xP HO8 (xP HO0 (xP HOT hq)))))
 have HZ4 : Hid (∀ a w,KT a w → Q5 (.exit 0) a w):=fun a w hk => xZ HO5 0 (xZ HO6 0 (xZ HO7 0 (xZ HO8 0 (HE0.out a w (HNT.out a w hk)))))
 have HX3 : Hid (∀ a w,Kb3 a w → Q1 (.exit 3) a w):=fun a w hk => xZ HO1 3 (xZ HO2 3 (HE3.out a w hk))
 have HR3 : Hid (∀ a w,_ → Q4 .ret a w):=fun a w hq => xR HO4 (xR HO5 (xR HO6 (xR HO7 (xR HO8 (xR HO0 (xR HOT hq))))))
 have HP3 : Hid (∀ c a w,_ → Q4 (.panic c) a w):=fun c a w hq => xP HO4 (xP HO5 (xP HO6 (xP HO7 (xP HO8 (xP HO0 (xP HOT hq))))))
 have HZ3 : Hid (∀ a w,KT a w → Q4 (.exit 0) a w):=fun a w hk => xZ HO4 0 (xZ HO5 0 (xZ HO6 0 (xZ HO7 0 (xZ HO8 0 (HE0.out a w (HNT.out a w hk))))))
 have HX2 : Hid (∀ a w,Kb2 a w → Q1 (.exit 2) a w):=fun a w hk => xZ HO1 2 (HE2.out a w hk)
 have HR2 : Hid (∀ a w,_ → Q3 .ret a w):=fun a w hq => xR HO3 (xR HO4 (xR HO5 (xR HO6 (xR HO7 (xR HO8 (xR HO0 (xR HOT hq)))))))
 have HP2 : Hid (∀ c a w,_ → Q3 (.panic c) a w):=fun c a w hq => xP HO3 (xP HO4 (xP HO5 (xP HO6 (xP HO7 (xP HO8 (xP HO0 (xP HOT hq)))))))
 have HZ2 : Hid (∀ a w,KT a w → Q3 (.exit 0) a w):=fun a w hk => xZ HO3 0 (xZ HO4 0 (xZ HO5 0 (xZ HO6 0 (xZ HO7 0 (xZ HO8 0 (HE0.out a w (HNT.out a w hk)))))))
 have HX1 : Hid (∀ a w,Kb1 a w → Q1 (.exit 1) a w):=fun a w hk => HE1.out a w hk
 have HR1 : Hid (∀ a w,_ → Q2 .ret a w):=fun a w hq => xR HO2 (xR HO3 (xR HO4 (xR HO5 (xR HO6 (xR HO7 (xR HO8 (xR HO0 (xR HOT hq))))))))
 have HP1 : Hid (∀ c a w,_ → Q2 (.panic c) a w):=fun c a w hq => xP HO2 (xP HO3 (xP HO4 (xP HO5 (xP HO6 (xP HO7 (xP HO8 (xP HO0 (xP HOT hq))))))))
 have HZ1 : Hid (∀ a w,KT a w → Q2 (.exit 0) a w):=fun a w hk => xZ HO2 0 (xZ HO3 0 (xZ HO4 0 (xZ HO5 0 (xZ HO6 0 (xZ HO7 0 (xZ HO8 0 (HE0.out a w (HNT.out a w hk))))))))
 have HZx : Hid (∀ a w,KT a w → Q1 (.exit 0) a w):=fun a w hk => xZ HO1 0 (xZ HO2 0 (xZ HO3 0 (xZ HO4 0 (xZ HO5 0 (xZ HO6 0 (xZ HO7 0 (xZ HO8 0 (HE0.out a w (HNT.out a w hk)))))))))
 clear HE0 HO0 HE8 HO8 HE7 HO7 HE6 HO6 HE5 HO5 HE4 HO4 HE3 HO3 HE2 HO2 HE1 HO1 HN0 HNT
 refine wp_seq_k fun Kx hKx => ?_
 have HKx:=ζ hKx
 clear hKx
 refine wp_seq_k fun Kr hKr => ?_
 have HKr:=ζ hKr
 clear hKr
 go_wp2
 refine HKr.out _ _ ?_
 clear HKr Kr
 refine wp_seq_k fun Kr hKr => ?_
 have HKr:=ζ hKr
 clear hKr
 go_wp2
 refine HKr.out _ _ ?_
 clear HKr Kr
 refine wp_seq_k fun Kr hKr => ?_
 have HKr:=ζ hKr
 clear hKr
 go_wp2
 refine HKr.out _ _ ?_
 clear HKr Kr
 refine wp_seq_k fun Kr hKr => ?_
 have HKr:=ζ hKr
 clear hKr
 go_wp2
 refine HKr.out _ _ ?_
 clear HKr Kr
 refine wp_seq_k fun Kr hKr => ?_
 have HKr:=ζ hKr
 clear hKr
 go_wp2
 refine HKr.out _ _ ?_
 clear HKr Kr
 refine wp_seq_k fun Kr hKr => ?_
 have HKr:=ζ hKr
 clear hKr
 go_wp2
 refine HKr.out _ _ ?_
 clear HKr Kr
 refine wp_seq_k fun Kr hKr => ?_
 have HKr:=ζ hKr
 clear hKr
 go_wp2
 refine HKr.out _ _ ?_
 clear HKr Kr
 go_wp2
 refine HKx.out _ _ ?_
 clear HKx
 go_wp2
 refine HZx.out _ _ ?_
 refine HKT.out _ _ ?_
 go_wp2
 rw [HPo.out]
 exact DoQ.ok_ HF.out ⟨rfl,rfl,rfl,rfl,rfl⟩ rfl HM1.out
theorem psh9 {o : World} {g : Nat} {s : Syst} {pa : Option Addr} {pc : Nat} {t : St} {m : PV} (k c p : Nat) (a1 a2 : Int) (eb ecap : Nat) (w : World) (h : PM o w g s pa pc { t with evs:=t.evs ++ [⟨(k : Int),9,0,0,false⟩] } m) (ho : Mc.Ok s) (hg : Mc.Good s t) (hk : k < t.rns.length) (hin : Mc.ins s t k = ⟨9,(c : Int),a1,a2⟩) (hpo : (Mc.rn t k).pos = (p : Int)) (hat : aT s (Mc.rn t k) = (p : Int)) (hp1 : p ≤ 256) (hc : c < t.locked.length) (he : m.ev = .slice (some ⟨eb,0,none⟩) (t.evs.length + 1) ecap) :
  Calls Try.prog 56 #[.pointer (some ⟨g,0,none⟩),.pointer (some ⟨m.ps.getD k 0,0,none⟩),.agg #[.int .i64 9,.int .i64 (c : Int),.int .i64 a1,.int .i64 a2],.pointer (some ⟨eb,t.evs.length * 5,none⟩)] w (DoQ o g s pa pc t m k):=by
 obtain ⟨POST,hP⟩ : ∃ P,P = DoQ o g s pa pc t m k:=⟨_,rfl⟩
 have HPo:=ζ hP
 rw [← hP]
 clear hP
 have h8:=(hg.gr k hk).rl
 have hA0 : Below w.heap.size w (w.alloc (.cells #[.int .i64 9,.int .i64 (c : Int),.int .i64 a1,.int .i64 a2] 68)):=(Below.refl _ _).alloc (Nat.le_refl _) _
 have NI0 : (w.alloc (.cells #[.int .i64 9,.int .i64 (c : Int),.int .i64 a1,.int .i64 a2] 68)).heap[w.heap.size]? = some (.cells #[.int .i64 9,.int .i64 (c : Int),.int .i64 a1,.int .i64 a2] 68 (0,0)):=heap_alloc_new w _
 have HM:=ζ (h.below hA0)
 have HI:=ζ NI0
 have HE:=ζ he
 have H8:=ζ h8
 have HKk:=ζ hk
 have HIn:=ζ hin
 have HPp:=ζ hpo
 have HG:=ζ hg
 have HOk:=ζ ho
 have x1 : (w.alloc (.cells #[.int .i64 9,.int .i64 (c : Int),.int .i64 a1,.int .i64 a2] 68)).cell? ⟨m.ps.getD k 0,1,none⟩ = some (.int .i64 (p : Int)):=by rw [← hat];exact (HM.out.at1 k hk).1
 have HEB : Hid (∀ (W : World) (u : St),PM o W g s pa pc u m → u.evs.length = t.evs.length + 1 → ∃ cs,W.heap[eb]? = some (.cells cs 39 (0,0))):=fun W u hW hl => by
  obtain ⟨_,cur,hh⟩:=row_is (cap:=ecap) hW.evs (by rw [he,hl]) (by omega)
  exact ⟨cur,hh⟩
 have HRg : Hid (∀ (u : St) (W : World) (r : Nat),PM o W g s pa pc u m → u.rns.length = t.rns.length → r < 8 → W.cell? ⟨m.ps.getD k 0,2 + r,none⟩ = some (.int .i64 (reg u k (r : Int)))):=fun u W r hW hl hr => hW.reg1 k (by rw [hl];exact hk) r hr
 have HRf : Hid (∀ (u : St) (W : World),PM o W g s pa pc u m → u.rns.length = t.rns.length → ∀ j,W.frozen? ⟨m.ps.getD k 0,j,none⟩ = false):=fun u W hW hl j => hW.rfz k (by rw [hl];exact hk) j
 have HRB : Hid (∀ (u : St) (W : World),PM o W g s pa pc u m → u.rns.length = t.rns.length → ∃ cs,W.heap[m.ps.getD k 0]? = some (.cells cs 75 (0,0))):=fun u W hW hl => ⟨_,hW.rnB k (by rw [hl];exact hk)⟩
 have ep : IntKind.i64.wrap ((p : Int) + 1) = (p : Int) + 1:=by rw [IntKind.wrap_i64];omega
 have HF9 : Hid (t.locked.getD c false = true → _):=fun hl => by
  have hF_:=F9 (s:=s) (t:=t) (k:=k) (by rw [hin]) (by rw [hin,Int.toNat_natCast];exact hl)
  simp only [hin,hpo,Int.toNat_natCast] at hF_
  exact hF_
 have HF9e : Hid (t.locked.getD c false = false → _):=fun hl => by
  have hF_:=F9e (s:=s) (t:=t) (k:=k) (by rw [hin]) (by rw [hin,Int.toNat_natCast,hl];decide)
  simp only [hin,hpo,Int.toNat_natCast] at hF_
  exact hF_
 obtain ⟨pk,hpk⟩ : ∃ pk,m.ps.getD k 0 = pk:=⟨_,rfl⟩
 have HPK:=ζ hpk
 rw [hpk] at HRg HRf HRB x1 ⊢
 obtain ⟨el,hel⟩ : ∃ el,t.evs.length = el:=⟨_,rfl⟩
 have HEL:=ζ hel
 rw [hel] at ⊢
 obtain ⟨fz_,cz_,_,_⟩:=HM.out.last1 he
 rw [hel] at cz_
 have fz:=fz_ (el * 5 + 2)
 have HM1 : Hid (PM o ((w.alloc (.cells #[.int .i64 9,.int .i64 (c : Int),.int .i64 a1,.int .i64 a2] 68)).setCell ⟨eb,el * 5 + 2,none⟩ (.int .i64 (c : Int))) g s pa pc { t with evs:=t.evs ++ [⟨(k : Int),9,(c : Int),0,false⟩] } m):=by
  have:=HM.out.lastA he (c : Int)
  rw [hel] at this;exact this
 have HI1 : Hid (((w.alloc (.cells #[.int .i64 9,.int .i64 (c : Int),.int .i64 a1,.int .i64 a2] 68)).setCell ⟨eb,el * 5 + 2,none⟩ (.int .i64 (c : Int))).heap[w.heap.size]? = some (.cells #[.int .i64 9,.int .i64 (c : Int),.int .i64 a1,.int .i64 a2] 68 (0,0))):=by
  obtain ⟨cs,hcs⟩:=HEB.out _ _ HM.out (by simp)
  exact blk_setN HI.out hcs (by decide)
 clear h hA0 NI0 he h8 hin hpo hat hg ho hk hpk hel fz_ hp1
 go_enter Try.func56,Try.ntmps56
 refine wp_seq_k fun K0 hK0 => ?_
 have HK0:=ζ hK0
 clear hK0
 go_wp2
 refine HK0.out _ _ ?_
 clear HK0 K0
 generalize w.alloc _ = X at *
 generalize w.heap.size = gi at *
 obtain ⟨z0,z1,z2,z3⟩:=cellsY4 HI.out
 refine wp_seq_k fun K0 hK0 => ?_
 have HK0:=ζ hK0
 clear hK0
 go_wp2
 refine HK0.out _ _ ?_
 clear HK0 K0 x1 ep
 refine wp_seq_k fun K0 hK0 => ?_
 have HK0:=ζ hK0
 clear hK0
 go_wp2
 refine HK0.out _ _ ?_
 clear HK0 K0 HM HI z0 z1 z2 z3 fz cz_
 generalize World.setCell _ _ _ = X1 at *
 obtain ⟨z0,z1,z2,z3⟩:=cellsY4 HI1.out
 refine wp_seq_q fun KT QT hKT hNT hOT => ?_
 have HKT:=ζ hKT
 have HNT:=ζ hNT
 have HOT:=ζ hOT
 clear hKT hNT hOT
 refine wp_seq_k fun K0 hK0 => ?_
 have HK0:=ζ hK0
 clear hK0
 go_wp2
 refine HK0.out _ _ ?_
 clear HK0 K0
 refine wp_block_q fun Q0 hN0 hE0 hO0 => ?_
 have HN0:=ζ hN0
 have HE0:=ζ hE0
 have HO0:=ζ hO0
 clear hN0 hE0 hO0
 refine wp_seq_block_q fun Kb8 Q8 hKb8 hN8 hE8 hO8 => ?_
 have HKb8:=ζ hKb8
 have HN8:=ζ hN8
 have HE8:=ζ hE8
 have HO8:=ζ hO8
 clear hKb8 hN8 hE8 hO8
 refine wp_seq_block_q fun Kb7 Q7 hKb7 hN7 hE7 hO7 => ?_
 have HKb7:=ζ hKb7
 have HN7:=ζ hN7
 have HE7:=ζ hE7
 have HO7:=ζ hO7
 clear hKb7 hN7 hE7 hO7
 refine wp_seq_block_q fun Kb6 Q6 hKb6 hN6 hE6 hO6 => ?_
 have HKb6:=ζ hKb6
 have HN6:=ζ hN6
 have HE6:=ζ hE6
 have HO6:=ζ hO6
 clear hKb6 hN6 hE6 hO6
 refine wp_seq_block_q fun Kb5 Q5 hKb5 hN5 hE5 hO5 => ?_
 have HKb5:=ζ hKb5
 have HN5:=ζ hN5
 have HE5:=ζ hE5
 have HO5:=ζ hO5
 clear hKb5 hN5 hE5 hO5
 refine wp_seq_block_q fun Kb4 Q4 hKb4 hN4 hE4 hO4 => ?_
 have HKb4:=ζ hKb4
 have HN4:=ζ hN4
 have HE4:=ζ hE4
 have HO4:=ζ hO4
 clear hKb4 hN4 hE4 hO4
 refine wp_seq_block_q fun Kb3 Q3 hKb3 hN3 hE3 hO3 => ?_
 have HKb3:=ζ hKb3
 have HN3:=ζ hN3
 have HE3:=ζ hE3
 have HO3:=ζ hO3
 clear hKb3 hN3 hE3 hO3
 refine wp_seq_block_q fun Kb2 Q2 hKb2 hN2 hE2 hO2 => ?_
 have HKb2:=ζ hKb2
 have HN2:=ζ hN2
 have HE2:=ζ hE2
 have HO2:=ζ hO2
 clear hKb2 hN2 hE2 hO2
 refine wp_seq_block_q fun Kb1 Q1 hKb1 hN1 hE1 hO1 => ?_
 have HKb1:=ζ hKb1
 have HN1:=ζ hN1
 have HE1:=ζ hE1
 have HO1:=ζ hO1
 clear hKb1 hN1 hE1 hO1
 have HX8 : Hid (∀ a w,Kb8 a w → Q1 (.exit 8) a w):=fun a w hk => xZ HO1 8 (xZ HO2 8 (xZ HO3 8 (xZ HO4 8 (xZ HO5 8 (xZ HO6 8 (xZ HO7 8 (HE8.out a w hk)))))))
 have HR8 : Hid (∀ a w,_ → Q0 .ret a w):=fun a w hq => xR HO0 (xR HOT hq)
 have HP8 : Hid (∀ c a w,_ → Q0 (.panic c) a w):=fun c a w hq => xP HO0 (xP HOT hq)
 have HZ8 : Hid (∀ a w,KT a w → Q0 (.exit 0) a w):=fun a w hk => HE0.out a w (HNT.out a w hk)
 have HX7 : Hid (∀ a w,Kb7 a w → Q1 (.exit 7) a w):=fun a w hk => xZ HO1 7 (xZ HO2 7 (xZ HO3 7 (xZ HO4 7 (xZ HO5 7 (xZ HO6 7 (HE7.out a w hk))))))
 have HR7 : Hid (∀ a w,_ → Q8 .ret a w):=fun a w hq => xR HO8 (xR HO0 (xR HOT hq))
 have HP7 : Hid (∀ c a w,_ → Q8 (.panic c) a w):=fun c a w hq => xP HO8 (xP HO0 (xP HOT hq))
 have HZ7 : Hid (∀ a w,KT a w → Q8 (.exit 0) a w):=fun a w hk => xZ HO8 0 (HE0.out a w (HNT.out a w hk))
 have HX6 : Hid (∀ a w,Kb6 a w → Q1 (.exit 6) a w):=fun a w hk => xZ HO1 6 (xZ HO2 6 (xZ HO3 6 (xZ HO4 6 (xZ HO5 6 (HE6.out a w hk)))))
 have HR6 : Hid (∀ a w,_ → Q7 .ret a w):=fun a w hq => xR HO7 (xR HO8 (xR HO0 (xR HOT hq)))
 have HP6 : Hid (∀ c a w,_ → Q7 (.panic c) a w):=fun c a w hq => xP HO7 (xP HO8 (xP HO0 (xP HOT hq)))
 have HZ6 : Hid (∀ a w,KT a w → Q7 (.exit 0) a w):=fun a w hk => xZ HO7 0 (xZ HO8 0 (HE0.out a w (HNT.out a w hk)))
 have HX5 : Hid (∀ a w,Kb5 a w → Q1 (.exit 5) a w):=fun a w hk => xZ HO1 5 (xZ HO2 5 (xZ HO3 5 (xZ HO4 5 (HE5.out a w hk))))
 have HR5 : Hid (∀ a w,_ → Q6 .ret a w):=fun a w hq => xR HO6 (xR HO7 (xR HO8 (xR HO0 (xR HOT hq))))
 have HP5 : Hid (∀ c a w,_ → Q6 (.panic c) a w):=fun c a w hq => xP HO6 (xP HO7 (xP HO8 (xP HO0 (xP HOT hq))))
 have HZ5 : Hid (∀ a w,KT a w → Q6 (.exit 0) a w):=fun a w hk => xZ HO6 0 (xZ HO7 0 (xZ HO8 0 (HE0.out a w (HNT.out a w hk))))
 have HX4 : Hid (∀ a w,Kb4 a w → Q1 (.exit 4) a w):=fun a w hk => xZ HO1 4 (xZ HO2 4 (xZ HO3 4 (HE4.out a w hk)))
 have HR4 : Hid (∀ a w,_ → Q5 .ret a w):=fun a w hq => xR HO5 (xR HO6 (xR HO7 (xR HO8 (xR HO0 (xR HOT hq)))))
 have HP4 : Hid (∀ c a w,_ → Q5 (.panic c) a w):=fun c a w hq => xP HO5 (xP HO6 (xP HO7 (xP HO8 (xP HO0 (xP HOT hq)))))
 have HZ4 : Hid (∀ a w,KT a w → Q5 (.exit 0) a w):=fun a w hk => xZ HO5 0 (xZ HO6 0 (xZ HO7 0 (xZ HO8 0 (HE0.out a w (HNT.out a w hk)))))
 have HX3 : Hid (∀ a w,Kb3 a w → Q1 (.exit 3) a w):=fun a w hk => xZ HO1 3 (xZ HO2 3 (HE3.out a w hk))
 have HR3 : Hid (∀ a w,_ → Q4 .ret a w):=fun a w hq => xR HO4 (xR HO5 (xR HO6 (xR HO7 (xR HO8 (xR HO0 (xR HOT hq))))))
 have HP3 : Hid (∀ c a w,_ → Q4 (.panic c) a w):=fun c a w hq => xP HO4 (xP HO5 (xP HO6 (xP HO7 (xP HO8 (xP HO0 (xP HOT hq))))))
 have HZ3 : Hid (∀ a w,KT a w → Q4 (.exit 0) a w):=fun a w hk => xZ HO4 0 (xZ HO5 0 (xZ HO6 0 (xZ HO7 0 (xZ HO8 0 (HE0.out a w (HNT.out a w hk))))))
 have HX2 : Hid (∀ a w,Kb2 a w → Q1 (.exit 2) a w):=fun a w hk => xZ HO1 2 (HE2.out a w hk)
 have HR2 : Hid (∀ a w,_ → Q3 .ret a w):=fun a w hq => xR HO3 (xR HO4 (xR HO5 (xR HO6 (xR HO7 (xR HO8 (xR HO0 (xR HOT hq)))))))
 have HP2 : Hid (∀ c a w,_ → Q3 (.panic c) a w):=fun c a w hq => xP HO3 (xP HO4 (xP HO5 (xP HO6 (xP HO7 (xP HO8 (xP HO0 (xP HOT hq)))))))
 have HZ2 : Hid (∀ a w,KT a w → Q3 (.exit 0) a w):=fun a w hk => xZ HO3 0 (xZ HO4 0 (xZ HO5 0 (xZ HO6 0 (xZ HO7 0 (xZ HO8 0 (HE0.out a w (HNT.out a w hk)))))))
 have HX1 : Hid (∀ a w,Kb1 a w → Q1 (.exit 1) a w):=fun a w hk => HE1.out a w hk
 have HR1 : Hid (∀ a w,_ → Q2 .ret a w):=fun a w hq => xR HO2 (xR HO3 (xR HO4 (xR HO5 (xR HO6 (xR HO7 (xR HO8 (xR HO0 (xR HOT hq))))))))
 have HP1 : Hid (∀ c a w,_ → Q2 (.panic c) a w):=fun c a w hq => xP HO2 (xP HO3 (xP HO4 (xP HO5 (xP HO6 (xP HO7 (xP HO8 (xP HO0 (xP HOT hq))))))))
 have HZ1 : Hid (∀ a w,KT a w → Q2 (.exit 0) a w):=fun a w hk => xZ HO2 0 (xZ HO3 0 (xZ HO4 0 (xZ HO5 0 (xZ HO6 0 (xZ HO7 0 (xZ HO8 0 (HE0.out a w (HNT.out a w hk))))))))
 have HZx : Hid (∀ a w,KT a w → Q1 (.exit 0) a w):=fun a w hk => xZ HO1 0 (xZ HO2 0 (xZ HO3 0 (xZ HO4 0 (xZ HO5 0 (xZ HO6 0 (xZ HO7 0 (xZ HO8 0 (HE0.out a w (HNT.out a w hk)))))))))
 clear HE0 HO0 HE8 HO8 HE7 HO7 HE6 HO6 HE5 HO5 HE4 HO4 HE3 HO3 HE2 HO2 HE1 HO1 HN0 HNT
 refine wp_seq_k fun Kx hKx => ?_
 have HKx:=ζ hKx
 clear hKx
 refine wp_seq_k fun Kr hKr => ?_
 have HKr:=ζ hKr
 clear hKr
 go_wp2
 refine HKr.out _ _ ?_
 clear HKr Kr
 refine wp_seq_k fun Kr hKr => ?_
 have HKr:=ζ hKr
 clear hKr
 go_wp2
 refine HKr.out _ _ ?_
 clear HKr Kr
 refine wp_seq_k fun Kr hKr => ?_
 have HKr:=ζ hKr
 clear hKr
 go_wp2
 refine HKr.out _ _ ?_
 clear HKr Kr
 refine wp_seq_k fun Kr hKr => ?_
 have HKr:=ζ hKr
 clear hKr
 go_wp2
 refine HKr.out _ _ ?_
 clear HKr Kr
 refine wp_seq_k fun Kr hKr => ?_
 have HKr:=ζ hKr
 clear hKr
 go_wp2
 refine HKr.out _ _ ?_
 clear HKr Kr
 refine wp_seq_k fun Kr hKr => ?_
 have HKr:=ζ hKr
 clear hKr
 go_wp2
 refine HX6.out _ _ ?_
 refine HKb6.out _ _ ?_
 have HCf:=ζ (pfree c X1 HM1.out hc)
 go_wp2_with fail
 refine HCf.out.mono ?_
 rintro e_ w_ (⟨hl,rfl,hM⟩ | ⟨hl,rfl,hM⟩)
 ·have HM2:=ζ hM
  have HF:=ζ (HF9e.out hl)
  clear hM hl;refine HP6.out _ _ _ ?_
  refine ⟨rfl,?_⟩
  rw [HPo.out];exact DoQ.bad_ HF.out ⟨rfl,rfl,rfl,rfl,rfl⟩ rfl HM2.out
 ·have HM2:=ζ hM
  have HF:=ζ (HF9.out hl)
  clear hM hl;go_wp2;refine HZ6.out _ _ ?_;refine HKT.out _ _ ?_;go_wp2;rw [HPo.out];exact DoQ.ok_ HF.out ⟨rfl,rfl,rfl,rfl,rfl⟩ rfl HM2.out
theorem psh15 {o : World} {g : Nat} {s : Syst} {pa : Option Addr} {pc : Nat} {t : St} {m : PV} (k r p : Nat) (a0 a2 : Int) (eb ecap : Nat) (w : World) (h : PM o w g s pa pc { t with evs:=t.evs ++ [⟨(k : Int),15,0,0,false⟩] } m) (ho : Mc.Ok s) (hg : Mc.Good s t) (hk : k < t.rns.length) (hin : Mc.ins s t k = ⟨15,a0,(r : Int),a2⟩) (hpo : (Mc.rn t k).pos = (p : Int)) (hat : aT s (Mc.rn t k) = (p : Int)) (hp1 : p ≤ 256) (hr : r < 8) (he : m.ev = .slice (some ⟨eb,0,none⟩) (t.evs.length + 1) ecap) :
  Calls Try.prog 56 #[.pointer (some ⟨g,0,none⟩),.pointer (some ⟨m.ps.getD k 0,0,none⟩),.agg #[.int .i64 15,.int .i64 a0,.int .i64 (r : Int),.int .i64 a2],.pointer (some ⟨eb,t.evs.length * 5,none⟩)] w (DoQ o g s pa pc t m k):=by
 obtain ⟨POST,hP⟩ : ∃ P,P = DoQ o g s pa pc t m k:=⟨_,rfl⟩
 have HPo:=ζ hP
 rw [← hP]
 clear hP
 have h8:=(hg.gr k hk).rl
 have hA0 : Below w.heap.size w (w.alloc (.cells #[.int .i64 15,.int .i64 a0,.int .i64 (r : Int),.int .i64 a2] 68)):=(Below.refl _ _).alloc (Nat.le_refl _) _
 have NI0 : (w.alloc (.cells #[.int .i64 15,.int .i64 a0,.int .i64 (r : Int),.int .i64 a2] 68)).heap[w.heap.size]? = some (.cells #[.int .i64 15,.int .i64 a0,.int .i64 (r : Int),.int .i64 a2] 68 (0,0)):=heap_alloc_new w _
 have HM:=ζ (h.below hA0)
 have HI:=ζ NI0
 have HE:=ζ he
 have H8:=ζ h8
 have HKk:=ζ hk
 have HIn:=ζ hin
 have HPp:=ζ hpo
 have HG:=ζ hg
 have HOk:=ζ ho
 have x1 : (w.alloc (.cells #[.int .i64 15,.int .i64 a0,.int .i64 (r : Int),.int .i64 a2] 68)).cell? ⟨m.ps.getD k 0,1,none⟩ = some (.int .i64 (p : Int)):=by rw [← hat];exact (HM.out.at1 k hk).1
 have HEB : Hid (∀ (W : World) (u : St),PM o W g s pa pc u m → u.evs.length = t.evs.length + 1 → ∃ cs,W.heap[eb]? = some (.cells cs 39 (0,0))):=fun W u hW hl => by
  obtain ⟨_,cur,hh⟩:=row_is (cap:=ecap) hW.evs (by rw [he,hl]) (by omega)
  exact ⟨cur,hh⟩
 have HRg : Hid (∀ (u : St) (W : World) (r : Nat),PM o W g s pa pc u m → u.rns.length = t.rns.length → r < 8 → W.cell? ⟨m.ps.getD k 0,2 + r,none⟩ = some (.int .i64 (reg u k (r : Int)))):=fun u W r hW hl hr => hW.reg1 k (by rw [hl];exact hk) r hr
 have HRf : Hid (∀ (u : St) (W : World),PM o W g s pa pc u m → u.rns.length = t.rns.length → ∀ j,W.frozen? ⟨m.ps.getD k 0,j,none⟩ = false):=fun u W hW hl j => hW.rfz k (by rw [hl];exact hk) j
 have HRB : Hid (∀ (u : St) (W : World),PM o W g s pa pc u m → u.rns.length = t.rns.length → ∃ cs,W.heap[m.ps.getD k 0]? = some (.cells cs 75 (0,0))):=fun u W hW hl => ⟨_,hW.rnB k (by rw [hl];exact hk)⟩
 have ep : IntKind.i64.wrap ((p : Int) + 1) = (p : Int) + 1:=by rw [IntKind.wrap_i64];omega
 have hF_:=F15 (s:=s) (t:=t) (k:=k) (by rw [hin])
 try simp only [hin,hpo,Int.toNat_natCast] at hF_
 have HF:=ζ hF_
 clear hF_
 have r1 : (r : Int) < 8:=by omega
 have r0 : (0 : Int) ≤ (r : Int):=by omega
 obtain ⟨pk,hpk⟩ : ∃ pk,m.ps.getD k 0 = pk:=⟨_,rfl⟩
 have HPK:=ζ hpk
 rw [hpk] at HRg HRf HRB x1 ⊢
 obtain ⟨el,hel⟩ : ∃ el,t.evs.length = el:=⟨_,rfl⟩
 have HEL:=ζ hel
 rw [hel] at ⊢
 obtain ⟨fz_,cz_,_,_⟩:=HM.out.last1 he
 rw [hel] at cz_
 have fz:=fz_ (el * 5 + 2)
 have HM1 : Hid (PM o ((w.alloc (.cells #[.int .i64 15,.int .i64 a0,.int .i64 (r : Int),.int .i64 a2] 68)).setCell ⟨eb,el * 5 + 2,none⟩ (.int .i64 a0)) g s pa pc { t with evs:=t.evs ++ [⟨(k : Int),15,a0,0,false⟩] } m):=by
  have:=HM.out.lastA he a0
  rw [hel] at this;exact this
 have HI1 : Hid (((w.alloc (.cells #[.int .i64 15,.int .i64 a0,.int .i64 (r : Int),.int .i64 a2] 68)).setCell ⟨eb,el * 5 + 2,none⟩ (.int .i64 a0)).heap[w.heap.size]? = some (.cells #[.int .i64 15,.int .i64 a0,.int .i64 (r : Int),.int .i64 a2] 68 (0,0))):=by
  obtain ⟨cs,hcs⟩:=HEB.out _ _ HM.out (by simp)
  exact blk_setN HI.out hcs (by decide)
 clear h hA0 NI0 he h8 hin hpo hat hg ho hk hpk hel fz_ hp1
 go_enter Try.func56,Try.ntmps56
 refine wp_seq_k fun K0 hK0 => ?_
 have HK0:=ζ hK0
 clear hK0
 go_wp2
 refine HK0.out _ _ ?_
 clear HK0 K0
 generalize w.alloc _ = X at *
 generalize w.heap.size = gi at *
 obtain ⟨z0,z1,z2,z3⟩:=cellsY4 HI.out
 refine wp_seq_k fun K0 hK0 => ?_
 have HK0:=ζ hK0
 clear hK0
 go_wp2
 refine HK0.out _ _ ?_
 clear HK0 K0 x1 ep
 refine wp_seq_k fun K0 hK0 => ?_
 have HK0:=ζ hK0
 clear hK0
 go_wp2
 refine HK0.out _ _ ?_
 clear HK0 K0 HM HI z0 z1 z2 z3 fz cz_
 generalize World.setCell _ _ _ = X1 at *
 obtain ⟨z0,z1,z2,z3⟩:=cellsY4 HI1.out
 refine wp_seq_q fun KT QT hKT hNT hOT => ?_
 have HKT:=ζ hKT
 have HNT:=ζ hNT
 have HOT:=ζ hOT
 clear hKT hNT hOT
 refine wp_seq_k fun K0 hK0 => ?_
 have HK0:=ζ hK0
 clear hK0
 go_wp2
 refine HK0.out _ _ ?_
 clear HK0 K0
 refine wp_block_q fun Q0 hN0 hE0 hO0 => ?_
 have HN0:=ζ hN0
 have HE0:=ζ hE0
 have HO0:=ζ hO0
 clear hN0 hE0 hO0
 refine wp_seq_block_q fun Kb8 Q8 hKb8 hN8 hE8 hO8 => ?_
 have HKb8:=ζ hKb8
 have HN8:=ζ hN8
 have HE8:=ζ hE8
 have HO8:=ζ hO8
 clear hKb8 hN8 hE8 hO8
 refine wp_seq_block_q fun Kb7 Q7 hKb7 hN7 hE7 hO7 => ?_
 have HKb7:=ζ hKb7
 have HN7:=ζ hN7
 have HE7:=ζ hE7
 have HO7:=ζ hO7
 clear hKb7 hN7 hE7 hO7
 refine wp_seq_block_q fun Kb6 Q6 hKb6 hN6 hE6 hO6 => ?_
 have HKb6:=ζ hKb6
 have HN6:=ζ hN6
 have HE6:=ζ hE6
 have HO6:=ζ hO6
 clear hKb6 hN6 hE6 hO6
 refine wp_seq_block_q fun Kb5 Q5 hKb5 hN5 hE5 hO5 => ?_
 have HKb5:=ζ hKb5
 have HN5:=ζ hN5
 have HE5:=ζ hE5
 have HO5:=ζ hO5
 clear hKb5 hN5 hE5 hO5
 refine wp_seq_block_q fun Kb4 Q4 hKb4 hN4 hE4 hO4 => ?_
 have HKb4:=ζ hKb4
 have HN4:=ζ hN4
 have HE4:=ζ hE4
 have HO4:=ζ hO4
 clear hKb4 hN4 hE4 hO4
 refine wp_seq_block_q fun Kb3 Q3 hKb3 hN3 hE3 hO3 => ?_
 have HKb3:=ζ hKb3
 have HN3:=ζ hN3
 have HE3:=ζ hE3
 have HO3:=ζ hO3
 clear hKb3 hN3 hE3 hO3
 refine wp_seq_block_q fun Kb2 Q2 hKb2 hN2 hE2 hO2 => ?_
 have HKb2:=ζ hKb2
 have HN2:=ζ hN2
 have HE2:=ζ hE2
 have HO2:=ζ hO2
 clear hKb2 hN2 hE2 hO2
 refine wp_seq_block_q fun Kb1 Q1 hKb1 hN1 hE1 hO1 => ?_
 have HKb1:=ζ hKb1
 have HN1:=ζ hN1
 have HE1:=ζ hE1
 have HO1:=ζ hO1
 clear hKb1 hN1 hE1 hO1
 have HX8 : Hid (∀ a w,Kb8 a w → Q1 (.exit 8) a w):=fun a w hk => xZ HO1 8 (xZ HO2 8 (xZ HO3 8 (xZ HO4 8 (xZ HO5 8 (xZ HO6 8 (xZ HO7 8 (HE8.out a w hk)))))))
 have HR8 : Hid (∀ a w,_ → Q0 .ret a w):=fun a w hq => xR HO0 (xR HOT hq)
 have HP8 : Hid (∀ c a w,_ → Q0 (.panic c) a w):=fun c a w hq => xP HO0 (xP HOT hq)
 have HZ8 : Hid (∀ a w,KT a w → Q0 (.exit 0) a w):=fun a w hk => HE0.out a w (HNT.out a w hk)
 have HX7 : Hid (∀ a w,Kb7 a w → Q1 (.exit 7) a w):=fun a w hk => xZ HO1 7 (xZ HO2 7 (xZ HO3 7 (xZ HO4 7 (xZ HO5 7 (xZ HO6 7 (HE7.out a w hk))))))
 have HR7 : Hid (∀ a w,_ → Q8 .ret a w):=fun a w hq => xR HO8 (xR HO0 (xR HOT hq))
 have HP7 : Hid (∀ c a w,_ → Q8 (.panic c) a w):=fun c a w hq => xP HO8 (xP HO0 (xP HOT hq))
 have HZ7 : Hid (∀ a w,KT a w → Q8 (.exit 0) a w):=fun a w hk => xZ HO8 0 (HE0.out a w (HNT.out a w hk))
 have HX6 : Hid (∀ a w,Kb6 a w → Q1 (.exit 6) a w):=fun a w hk => xZ HO1 6 (xZ HO2 6 (xZ HO3 6 (xZ HO4 6 (xZ HO5 6 (HE6.out a w hk)))))
 have HR6 : Hid (∀ a w,_ → Q7 .ret a w):=fun a w hq => xR HO7 (xR HO8 (xR HO0 (xR HOT hq)))
 have HP6 : Hid (∀ c a w,_ → Q7 (.panic c) a w):=fun c a w hq => xP HO7 (xP HO8 (xP HO0 (xP HOT hq)))
 have HZ6 : Hid (∀ a w,KT a w → Q7 (.exit 0) a w):=fun a w hk => xZ HO7 0 (xZ HO8 0 (HE0.out a w (HNT.out a w hk)))
 have HX5 : Hid (∀ a w,Kb5 a w → Q1 (.exit 5) a w):=fun a w hk => xZ HO1 5 (xZ HO2 5 (xZ HO3 5 (xZ HO4 5 (HE5.out a w hk))))
 have HR5 : Hid (∀ a w,_ → Q6 .ret a w):=fun a w hq => xR HO6 (xR HO7 (xR HO8 (xR HO0 (xR HOT hq))))
 have HP5 : Hid (∀ c a w,_ → Q6 (.panic c) a w):=fun c a w hq => xP HO6 (xP HO7 (xP HO8 (xP HO0 (xP HOT hq))))
 have HZ5 : Hid (∀ a w,KT a w → Q6 (.exit 0) a w):=fun a w hk => xZ HO6 0 (xZ HO7 0 (xZ HO8 0 (HE0.out a w (HNT.out a w hk))))
 have HX4 : Hid (∀ a w,Kb4 a w → Q1 (.exit 4) a w):=fun a w hk => xZ HO1 4 (xZ HO2 4 (xZ HO3 4 (HE4.out a w hk)))
 have HR4 : Hid (∀ a w,_ → Q5 .ret a w):=fun a w hq => xR HO5 (xR HO6 (xR HO7 (xR HO8 (xR HO0 (xR HOT hq)))))
 have HP4 : Hid (∀ c a w,_ → Q5 (.panic c) a w):=fun c a w hq => xP HO5 (xP HO6 (xP HO7 (xP HO8 (xP HO0 (xP HOT hq)))))
 have HZ4 : Hid (∀ a w,KT a w → Q5 (.exit 0) a w):=fun a w hk => xZ HO5 0 (xZ HO6 0 (xZ HO7 0 (xZ HO8 0 (HE0.out a w (HNT.out a w hk)))))
 have HX3 : Hid (∀ a w,Kb3 a w → Q1 (.exit 3) a w):=fun a w hk => xZ HO1 3 (xZ HO2 3 (HE3.out a w hk))
 have HR3 : Hid (∀ a w,_ → Q4 .ret a w):=fun a w hq => xR HO4 (xR HO5 (xR HO6 (xR HO7 (xR HO8 (xR HO0 (xR HOT hq))))))
 have HP3 : Hid (∀ c a w,_ → Q4 (.panic c) a w):=fun c a w hq => xP HO4 (xP HO5 (xP HO6 (xP HO7 (xP HO8 (xP HO0 (xP HOT hq))))))
 have HZ3 : Hid (∀ a w,KT a w → Q4 (.exit 0) a w):=fun a w hk => xZ HO4 0 (xZ HO5 0 (xZ HO6 0 (xZ HO7 0 (xZ HO8 0 (HE0.out a w (HNT.out a w hk))))))
 have HX2 : Hid (∀ a w,Kb2 a w → Q1 (.exit 2) a w):=fun a w hk => xZ HO1 2 (HE2.out a w hk)
 have HR2 : Hid (∀ a w,_ → Q3 .ret a w):=fun a w hq => xR HO3 (xR HO4 (xR HO5 (xR HO6 (xR HO7 (xR HO8 (xR HO0 (xR HOT hq)))))))
 have HP2 : Hid (∀ c a w,_ → Q3 (.panic c) a w):=fun c a w hq => xP HO3 (xP HO4 (xP HO5 (xP HO6 (xP HO7 (xP HO8 (xP HO0 (xP HOT hq)))))))
 have HZ2 : Hid (∀ a w,KT a w → Q3 (.exit 0) a w):=fun a w hk => xZ HO3 0 (xZ HO4 0 (xZ HO5 0 (xZ HO6 0 (xZ HO7 0 (xZ HO8 0 (HE0.out a w (HNT.out a w hk)))))))
 have HX1 : Hid (∀ a w,Kb1 a w → Q1 (.exit 1) a w):=fun a w hk => HE1.out a w hk
 have HR1 : Hid (∀ a w,_ → Q2 .ret a w):=fun a w hq => xR HO2 (xR HO3 (xR HO4 (xR HO5 (xR HO6 (xR HO7 (xR HO8 (xR HO0 (xR HOT hq))))))))
 have HP1 : Hid (∀ c a w,_ → Q2 (.panic c) a w):=fun c a w hq => xP HO2 (xP HO3 (xP HO4 (xP HO5 (xP HO6 (xP HO7 (xP HO8 (xP HO0 (xP HOT hq))))))))
 have HZ1 : Hid (∀ a w,KT a w → Q2 (.exit 0) a w):=fun a w hk => xZ HO2 0 (xZ HO3 0 (xZ HO4 0 (xZ HO5 0 (xZ HO6 0 (xZ HO7 0 (xZ HO8 0 (HE0.out a w (HNT.out a w hk))))))))
 have HZx : Hid (∀ a w,KT a w → Q1 (.exit 0) a w):=fun a w hk => xZ HO1 0 (xZ HO2 0 (xZ HO3 0 (xZ HO4 0 (xZ HO5 0 (xZ HO6 0 (xZ HO7 0 (xZ HO8 0 (HE0.out a w (HNT.out a w hk)))))))))
 clear HE0 HO0 HE8 HO8 HE7 HO7 HE6 HO6 HE5 HO5 HE4 HO4 HE3 HO3 HE2 HO2 HE1 HO1 HN0 HNT
 refine wp_seq_k fun Kx hKx => ?_
 have HKx:=ζ hKx
 clear hKx
 refine wp_seq_k fun Kr hKr => ?_
 have HKr:=ζ hKr
 clear hKr
 go_wp2
 refine HKr.out _ _ ?_
 clear HKr Kr
 refine wp_seq_k fun Kr hKr => ?_
 have HKr:=ζ hKr
 clear hKr
 go_wp2
 refine HKr.out _ _ ?_
 clear HKr Kr
 refine wp_seq_k fun Kr hKr => ?_
 have HKr:=ζ hKr
 clear hKr
 go_wp2
 refine HX3.out _ _ ?_
 refine HKb3.out _ _ ?_
 have xq:=HRg.out _ X1 r HM1.out rfl hr
 obtain ⟨vb,hvb⟩ : ∃ vb,reg t k (r : Int) = vb:=⟨_,rfl⟩
 change X1.cell? _ = some (.int .i64 (reg t k (r : Int))) at xq
 rw [hvb] at xq
 have HVb:=ζ hvb
 clear hvb
 refine wp_seq_k fun Kq hKq => ?_
 have HKq:=ζ hKq
 clear hKq
 refine wp_region_noPanic ?_
 refine RG.wp_region_L (fun Z => Below X1.heap.size X1 Z) (fun Z => True) [10] (by kernel_rfl) ?_
 refine RG.wpL_any fun Yz2 hY => ?_
 have HBz2 : Hid (Below X1.heap.size X1 Yz2):=by rw [hY];exact below_drewN (Below.refl _ _) 1
 clear hY
 refine RG.wpL_take (fuel:=1) (a':=?Az2) [0,1,2,3,4,5,6,7,8,9] (by kernel_rfl) (by kernel_rfl) (fun _ _ _ _ _ h => h) trivial (fun _ => HBz2.out) ?rz2 ?_
 case rz2 =>
  iterate 3
   refine RG.rW ?_ (fun Z hT => ?_) ?_
   rotate_left
   ·go_simp
    rfl
   simp only [Act.put,lA,lB,lC,lD,lE,lF]
  refine RG.RunsIf.strong (v:=.int .i64 (r : Int)) (by rfl) (by kernel_rfl) (by rfl) (fun Z hT hS => ?_) ?_
  ·have y1:=keepC hS z2;have y2:=keepC hS xq
   go_simp
  simp only [Act.put,lA,lB,lC,lD,lE,lF]
  iterate 3
   refine RG.rW ?_ (fun Z hT => ?_) ?_
   rotate_left
   ·go_simp
    rfl
   simp only [Act.put,lA,lB,lC,lD,lE,lF]
  refine RG.RunsIf.strong (v:=.int .i64 vb) (by rfl) (by kernel_rfl) (by rfl) (fun Z hT hS => ?_) ?_
  ·have y1:=keepC hS z2;have y2:=keepC hS xq
   go_simp
  simp only [Act.put,lA,lB,lC,lD,lE,lF]
  iterate 2
   refine RG.rW ?_ (fun Z hT => ?_) ?_
   rotate_left
   ·go_simp
    rfl
   simp only [Act.put,lA,lB,lC,lD,lE,lF]
  exact RG.RunsIf.nil
 have HMq:=ζ (HM1.out.below HBz2.out)
 have HIq:=ζ (blk_keep HI1.out HBz2.out)
 obtain ⟨fz_,_,cz_,_⟩:=HMq.out.last1 HE.out
 rw [HEL.out] at cz_
 have cz:=cz_
 have fz:=fz_ (el * 5 + 3)
 clear fz_ cz_
 refine RG.wpL_late (i:=10) (by kernel_rfl) (by rfl) (by rfl) (by kernel_rfl) (fun KX hK => ?_)
 have HK:=ζ hK
 clear hK
 go_simp
 refine HK.out _ _ trivial ?_
 clear HK KX cz fz
 refine RG.wpL_done (by kernel_rfl) ?_ _
 refine NoPanic.normal ?_
 have HM2:=ζ (HMq.out.lastV HE.out (reg t k (r : Int)))
 have HI2 : Hid ((Yz2.setCell ⟨eb,t.evs.length * 5 + 3,none⟩ (.int .i64 (reg t k (r : Int)))).heap[gi]? = some (.cells #[.int .i64 15,.int .i64 a0,.int .i64 (r : Int),.int .i64 a2] 68 (0,0))):=by
  obtain ⟨cs,hcs⟩:=HEB.out _ _ HMq.out (by simp)
  exact blk_setN HIq.out hcs (by decide)
 rw [HEL.out,HVb.out] at HM2 HI2
 rw [HVb.out] at HF
 refine HKq.out _ _ ?_
 clear HKq HMq HIq xq z0 z1 z2 z3
 generalize World.setCell _ _ _ = X2 at *
 go_wp2
 refine HZ3.out _ _ ?_
 refine HKT.out _ _ ?_
 go_wp2
 rw [HPo.out]
 exact DoQ.ok_ HF.out ⟨rfl,rfl,rfl,rfl,rfl⟩ rfl HM2.out
end LW
end Go.Proofs.Ytfbnakmmmphedaa
