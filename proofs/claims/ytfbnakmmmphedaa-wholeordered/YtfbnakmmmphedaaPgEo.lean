/-
 What an instruction that shares does: channels, groups, new runners.
-/
import Derived.Test.YtfbnakmmmphedaaPgCo
import Derived.Test.YtfbnakmmmphedaaOrd2o
set_option linter.unusedVariables false
set_option linter.unusedSimpArgs false
set_option maxRecDepth 100000
set_option maxHeartbeats 4000000
namespace Go.Proofs.Ytfbnakmmmphedaa
open Go.RowKit
namespace LW
open Mc
theorem psh7 {o : World} {g : Nat} {s : Syst} {pa : Option Addr} {pc : Nat} {t : St} {m : PV} (k c p : Nat) (a1 a2 : Int) (eb ecap : Nat) (w : World) (h : PM o w g s pa pc { t with evs:=t.evs ++ [⟨(k : Int),7,0,0,false⟩] } m) (ho : Mc.Ok s) (hg : Mc.Good s t) (hk : k < t.rns.length) (hin : Mc.ins s t k = ⟨7,(c : Int),a1,a2⟩) (hpo : (Mc.rn t k).pos = (p : Int)) (hat : aT s (Mc.rn t k) = (p : Int)) (hp1 : p ≤ 256) (hc : c < t.held.length) (he : m.ev = .slice (some ⟨eb,0,none⟩) (t.evs.length + 1) ecap) :
  Calls Try.prog 56 #[.pointer (some ⟨g,0,none⟩),.pointer (some ⟨m.ps.getD k 0,0,none⟩),.agg #[.int .i64 7,.int .i64 (c : Int),.int .i64 a1,.int .i64 a2],.pointer (some ⟨eb,t.evs.length * 5,none⟩)] w (DoQ o g s pa pc t m k):=by
 obtain ⟨POST,hP⟩ : ∃ P,P = DoQ o g s pa pc t m k:=⟨_,rfl⟩
 have HPo:=ζ hP
 rw [← hP]
 clear hP
 have h8:=(hg.gr k hk).rl
 have hA0 : Below w.heap.size w (w.alloc (.cells #[.int .i64 7,.int .i64 (c : Int),.int .i64 a1,.int .i64 a2] 68)):=(Below.refl _ _).alloc (Nat.le_refl _) _
 have NI0 : (w.alloc (.cells #[.int .i64 7,.int .i64 (c : Int),.int .i64 a1,.int .i64 a2] 68)).heap[w.heap.size]? = some (.cells #[.int .i64 7,.int .i64 (c : Int),.int .i64 a1,.int .i64 a2] 68 (0,0)):=heap_alloc_new w _
 have HM:=ζ (h.below hA0)
 have HI:=ζ NI0
 have HE:=ζ he
 have H8:=ζ h8
 have HKk:=ζ hk
 have HIn:=ζ hin
 have HPp:=ζ hpo
 have HG:=ζ hg
 have HOk:=ζ ho
 have x1 : (w.alloc (.cells #[.int .i64 7,.int .i64 (c : Int),.int .i64 a1,.int .i64 a2] 68)).cell? ⟨m.ps.getD k 0,1,none⟩ = some (.int .i64 (p : Int)):=by rw [← hat];exact (HM.out.at1 k hk).1
 have HEB : Hid (∀ (W : World) (u : St),PM o W g s pa pc u m → u.evs.length = t.evs.length + 1 → ∃ cs,W.heap[eb]? = some (.cells cs 39 (0,0))):=fun W u hW hl => by
  obtain ⟨_,cur,hh⟩:=row_is (cap:=ecap) hW.evs (by rw [he,hl]) (by omega)
  exact ⟨cur,hh⟩
 have HRg : Hid (∀ (u : St) (W : World) (r : Nat),PM o W g s pa pc u m → u.rns.length = t.rns.length → r < 8 → W.cell? ⟨m.ps.getD k 0,2 + r,none⟩ = some (.int .i64 (reg u k (r : Int)))):=fun u W r hW hl hr => hW.reg1 k (by rw [hl];exact hk) r hr
 have HRf : Hid (∀ (u : St) (W : World),PM o W g s pa pc u m → u.rns.length = t.rns.length → ∀ j,W.frozen? ⟨m.ps.getD k 0,j,none⟩ = false):=fun u W hW hl j => hW.rfz k (by rw [hl];exact hk) j
 have HRB : Hid (∀ (u : St) (W : World),PM o W g s pa pc u m → u.rns.length = t.rns.length → ∃ cs,W.heap[m.ps.getD k 0]? = some (.cells cs 75 (0,0))):=fun u W hW hl => ⟨_,hW.rnB k (by rw [hl];exact hk)⟩
 have ep : IntKind.i64.wrap ((p : Int) + 1) = (p : Int) + 1:=by rw [IntKind.wrap_i64];omega
 have hsl : t.shut.length = t.held.length:=by rw [hg.sl,hg.hl]
 have HSL:=ζ hsl
 clear hsl
 have HF7 : Hid (t.shut.getD c false = false → _):=fun hl => by
  have hF_:=F7 (s:=s) (t:=t) (k:=k) (by rw [hin]) (by rw [hin,Int.toNat_natCast,hl];decide)
  simp only [hin,hpo,Int.toNat_natCast] at hF_
  exact hF_
 have HF7s : Hid (t.shut.getD c false = true → _):=fun hl => by
  have hF_:=F7s (s:=s) (t:=t) (k:=k) (by rw [hin]) (by rw [hin,Int.toNat_natCast];exact hl)
  simp only [hin,hpo,Int.toNat_natCast] at hF_
  exact hF_
 obtain ⟨pk,hpk⟩ : ∃ pk,m.ps.getD k 0 = pk:=⟨_,rfl⟩
 have HPK:=ζ hpk
 rw [hpk] at HRg HRf HRB x1 ⊢
 obtain ⟨el,hel⟩ : ∃ el,t.evs.length = el:=⟨_,rfl⟩
 have HEL:=ζ hel
 rw [hel] at ⊢
 obtain ⟨fz_,cz_,_,_⟩:=HM.out.last1 he
 rw [hel] at cz_
 have fz:=fz_ (el * 5 + 2)
 have HM1 : Hid (PM o ((w.alloc (.cells #[.int .i64 7,.int .i64 (c : Int),.int .i64 a1,.int .i64 a2] 68)).setCell ⟨eb,el * 5 + 2,none⟩ (.int .i64 (c : Int))) g s pa pc { t with evs:=t.evs ++ [⟨(k : Int),7,(c : Int),0,false⟩] } m):=by
  have:=HM.out.lastA he (c : Int)
  rw [hel] at this;exact this
 have HI1 : Hid (((w.alloc (.cells #[.int .i64 7,.int .i64 (c : Int),.int .i64 a1,.int .i64 a2] 68)).setCell ⟨eb,el * 5 + 2,none⟩ (.int .i64 (c : Int))).heap[w.heap.size]? = some (.cells #[.int .i64 7,.int .i64 (c : Int),.int .i64 a1,.int .i64 a2] 68 (0,0))):=by
  obtain ⟨cs,hcs⟩:=HEB.out _ _ HM.out (by simp)
  exact blk_setN HI.out hcs (by decide)
 clear h hA0 NI0 he h8 hin hpo hat hg ho hk hpk hel fz_ hp1
 go_enter Try.func56,Try.ntmps56
 refine wp_seq_k fun K0 hK0 => ?_
 have HK0:=ζ hK0
 clear hK0
 go_wp2
 refine HK0.out _ _ ?_
 clear HK0 K0
 generalize w.alloc _ = X at *
 generalize w.heap.size = gi at *
 obtain ⟨z0,z1,z2,z3⟩:=cellsY4 HI.out
 refine wp_seq_k fun K0 hK0 => ?_
 have HK0:=ζ hK0
 clear hK0
 go_wp2
 refine HK0.out _ _ ?_
 clear HK0 K0 x1 ep
 refine wp_seq_k fun K0 hK0 => ?_
 have HK0:=ζ hK0
 clear hK0
 go_wp2
 refine HK0.out _ _ ?_
 clear HK0 K0 HM HI z0 z1 z2 z3 fz cz_
 generalize World.setCell _ _ _ = X1 at *
 obtain ⟨z0,z1,z2,z3⟩:=cellsY4 HI1.out
 refine wp_seq_q fun KT QT hKT hNT hOT => ?_
 have HKT:=ζ hKT
 have HNT:=ζ hNT
 have HOT:=ζ hOT
 clear hKT hNT hOT
 refine wp_seq_k fun K0 hK0 => ?_
 have HK0:=ζ hK0
 clear hK0
 go_wp2
 refine HK0.out _ _ ?_
 clear HK0 K0
 refine wp_block_q fun Q0 hN0 hE0 hO0 => ?_
 have HN0:=ζ hN0
 have HE0:=ζ hE0
 have HO0:=ζ hO0
 clear hN0 hE0 hO0
 refine wp_seq_block_q fun Kb8 Q8 hKb8 hN8 hE8 hO8 => ?_
 have HKb8:=ζ hKb8
 have HN8:=ζ hN8
 have HE8:=ζ hE8
 have HO8:=ζ hO8
 clear hKb8 hN8 hE8 hO8
 refine wp_seq_block_q fun Kb7 Q7 hKb7 hN7 hE7 hO7 => ?_
 have HKb7:=ζ hKb7
 have HN7:=ζ hN7
 have HE7:=ζ hE7
 have HO7:=ζ hO7
 clear hKb7 hN7 hE7 hO7
 refine wp_seq_block_q fun Kb6 Q6 hKb6 hN6 hE6 hO6 => ?_
 have HKb6:=ζ hKb6
 have HN6:=ζ hN6
 have HE6:=ζ hE6
 have HO6:=ζ hO6
 clear hKb6 hN6 hE6 hO6
 refine wp_seq_block_q fun Kb5 Q5 hKb5 hN5 hE5 hO5 => ?_
 have HKb5:=ζ hKb5
 have HN5:=ζ hN5
 have HE5:=ζ hE5
 have HO5:=ζ hO5
 clear hKb5 hN5 hE5 hO5
 refine wp_seq_block_q fun Kb4 Q4 hKb4 hN4 hE4 hO4 => ?_
 have HKb4:=ζ hKb4
 have HN4:=ζ hN4
 have HE4:=ζ hE4
 have HO4:=ζ hO4
 clear hKb4 hN4 hE4 hO4
 refine wp_seq_block_q fun Kb3 Q3 hKb3 hN3 hE3 hO3 => ?_
 have HKb3:=ζ hKb3
 have HN3:=ζ hN3
 have HE3:=ζ hE3
 have HO3:=ζ hO3
 clear hKb3 hN3 hE3 hO3
 refine wp_seq_block_q fun Kb2 Q2 hKb2 hN2 hE2 hO2 => ?_
 have HKb2:=ζ hKb2
 have HN2:=ζ hN2
 have HE2:=ζ hE2
 have HO2:=ζ hO2
 clear hKb2 hN2 hE2 hO2
 refine wp_seq_block_q fun Kb1 Q1 hKb1 hN1 hE1 hO1 => ?_
 have HKb1:=ζ hKb1
 have HN1:=ζ hN1
 have HE1:=ζ hE1
 have HO1:=ζ hO1
 clear hKb1 hN1 hE1 hO1
 have HX8 : Hid (∀ a w,Kb8 a w → Q1 (.exit 8) a w):=fun a w hk => xZ HO1 8 (xZ HO2 8 (xZ HO3 8 (xZ HO4 8 (xZ HO5 8 (xZ HO6 8 (xZ HO7 8 (HE8.out a w hk)))))))
 have HR8 : Hid (∀ a w,_ → Q0 .ret a w):=fun a w hq => xR HO0 (xR HOT hq)
 have HP8 : Hid (∀ c a w,_ → Q0 (.panic c) a w):=fun c a w hq => xP HO0 (xP HOT hq)
 have HZ8 : Hid (∀ a w,KT a w → Q0 (.exit 0) a w):=fun a w hk => HE0.out a w (HNT.out a w hk)
 have HX7 : Hid (∀ a w,Kb7 a w → Q1 (.exit 7) a w):=fun a w hk => xZ HO1 7 (xZ HO2 7 (xZ HO3 7 (xZ HO4 7 (xZ HO5 7 (xZ HO6 7 (HE7.out a w hk))))))
 have HR7 : Hid (∀ a w,_ → Q8 .ret a w):=fun a w hq => xR HO8 (xR HO0 (xR HOT hq))
 have HP7 : Hid (∀ c a w,_ → Q8 (.panic c) a w):=fun c a w hq => xP HO8 (xP HO0 (xP HOT hq))
 have HZ7 : Hid (∀ a w,KT a w → Q8 (.exit 0) a w):=fun a w hk => xZ HO8 0 (HE0.out a w (HNT.out a w hk))
 have HX6 : Hid (∀ a w,Kb6 a w → Q1 (.exit 6) a w):=fun a w hk => xZ HO1 6 (xZ HO2 6 (xZ HO3 6 (xZ HO4 6 (xZ HO5 6 (HE6.out a w hk)))))
 have HR6 : Hid (∀ a w,_ → Q7 .ret a w):=fun a w hq => xR HO7 (xR HO8 (xR HO0 (xR HOT hq)))
 have HP6 : Hid (∀ c a w,_ → Q7 (.panic c) a w):=fun c a w hq => xP HO7 (xP HO8 (xP HO0 (xP HOT hq)))
 have HZ6 : Hid (∀ a w,KT a w → Q7 (.exit 0) a w):=fun a w hk => xZ HO7 0 (xZ HO8 0 (HE0.out a w (HNT.out a w hk)))
 have HX5 : Hid (∀ a w,Kb5 a w → Q1 (.exit 5) a w):=fun a w hk => xZ HO1 5 (xZ HO2 5 (xZ HO3 5 (xZ HO4 5 (HE5.out a w hk))))
 have HR5 : Hid (∀ a w,_ → Q6 .ret a w):=fun a w hq => xR HO6 (xR HO7 (xR HO8 (xR HO0 (xR HOT hq))))
 have HP5 : Hid (∀ c a w,_ → Q6 (.panic c) a w):=fun c a w hq => xP HO6 (xP HO7 (xP HO8 (xP HO0 (xP HOT hq))))
 have HZ5 : Hid (∀ a w,KT a w → Q6 (.exit 0) a w):=fun a w hk => xZ HO6 0 (xZ HO7 0 (xZ HO8 0 (HE0.out a w (HNT.out a w hk))))
 have HX4 : Hid (∀ a w,Kb4 a w → Q1 (.exit 4) a w):=fun a w hk => xZ HO1 4 (xZ HO2 4 (xZ HO3 4 (HE4.out a w hk)))
 have HR4 : Hid (∀ a w,_ → Q5 .ret a w):=fun a w hq => xR HO5 (xR HO6 (xR HO7 (xR HO8 (xR HO0 (xR HOT hq)))))
 have HP4 : Hid (∀ c a w,_ → Q5 (.panic c) a w):=fun c a w hq => xP HO5 (xP HO6 (xP HO7 (xP HO8 (xP HO0 (xP HOT hq)))))
 have HZ4 : Hid (∀ a w,KT a w → Q5 (.exit 0) a w):=fun a w hk => xZ HO5 0 (xZ HO6 0 (xZ HO7 0 (xZ HO8 0 (HE0.out a w (HNT.out a w hk)))))
 have HX3 : Hid (∀ a w,Kb3 a w → Q1 (.exit 3) a w):=fun a w hk => xZ HO1 3 (xZ HO2 3 (HE3.out a w hk))
 have HR3 : Hid (∀ a w,_ → Q4 .ret a w):=fun a w hq => xR HO4 (xR HO5 (xR HO6 (xR HO7 (xR HO8 (xR HO0 (xR HOT hq))))))
 have HP3 : Hid (∀ c a w,_ → Q4 (.panic c) a w):=fun c a w hq => xP HO4 (xP HO5 (xP HO6 (xP HO7 (xP HO8 (xP HO0 (xP HOT hq))))))
 have HZ3 : Hid (∀ a w,KT a w → Q4 (.exit 0) a w):=fun a w hk => xZ HO4 0 (xZ HO5 0 (xZ HO6 0 (xZ HO7 0 (xZ HO8 0 (HE0.out a w (HNT.out a w hk))))))
 have HX2 : Hid (∀ a w,Kb2 a w → Q1 (.exit 2) a w):=fun a w hk => xZ HO1 2 (HE2.out a w hk)
 have HR2 : Hid (∀ a w,_ → Q3 .ret a w):=fun a w hq => xR HO3 (xR HO4 (xR HO5 (xR HO6 (xR HO7 (xR HO8 (xR HO0 (xR HOT hq)))))))
 have HP2 : Hid (∀ c a w,_ → Q3 (.panic c) a w):=fun c a w hq => xP HO3 (xP HO4 (xP HO5 (xP HO6 (xP HO7 (xP HO8 (xP HO0 (xP HOT hq)))))))
 have HZ2 : Hid (∀ a w,KT a w → Q3 (.exit 0) a w):=fun a w hk => xZ HO3 0 (xZ HO4 0 (xZ HO5 0 (xZ HO6 0 (xZ HO7 0 (xZ HO8 0 (HE0.out a w (HNT.out a w hk)))))))
 have HX1 : Hid (∀ a w,Kb1 a w → Q1 (.exit 1) a w):=fun a w hk => HE1.out a w hk
 have HR1 : Hid (∀ a w,_ → Q2 .ret a w):=fun a w hq => xR HO2 (xR HO3 (xR HO4 (xR HO5 (xR HO6 (xR HO7 (xR HO8 (xR HO0 (xR HOT hq))))))))
 have HP1 : Hid (∀ c a w,_ → Q2 (.panic c) a w):=fun c a w hq => xP HO2 (xP HO3 (xP HO4 (xP HO5 (xP HO6 (xP HO7 (xP HO8 (xP HO0 (xP HOT hq))))))))
 have HZ1 : Hid (∀ a w,KT a w → Q2 (.exit 0) a w):=fun a w hk => xZ HO2 0 (xZ HO3 0 (xZ HO4 0 (xZ HO5 0 (xZ HO6 0 (xZ HO7 0 (xZ HO8 0 (HE0.out a w (HNT.out a w hk))))))))
 have HZx : Hid (∀ a w,KT a w → Q1 (.exit 0) a w):=fun a w hk => xZ HO1 0 (xZ HO2 0 (xZ HO3 0 (xZ HO4 0 (xZ HO5 0 (xZ HO6 0 (xZ HO7 0 (xZ HO8 0 (HE0.out a w (HNT.out a w hk)))))))))
 clear HE0 HO0 HE8 HO8 HE7 HO7 HE6 HO6 HE5 HO5 HE4 HO4 HE3 HO3 HE2 HO2 HE1 HO1 HN0 HNT
 refine wp_seq_k fun Kx hKx => ?_
 have HKx:=ζ hKx
 clear hKx
 refine wp_seq_k fun Kr hKr => ?_
 have HKr:=ζ hKr
 clear hKr
 go_wp2
 refine HKr.out _ _ ?_
 clear HKr Kr
 refine wp_seq_k fun Kr hKr => ?_
 have HKr:=ζ hKr
 clear hKr
 go_wp2
 refine HKr.out _ _ ?_
 clear HKr Kr
 refine wp_seq_k fun Kr hKr => ?_
 have HKr:=ζ hKr
 clear hKr
 go_wp2
 refine HKr.out _ _ ?_
 clear HKr Kr
 refine wp_seq_k fun Kr hKr => ?_
 have HKr:=ζ hKr
 clear hKr
 go_wp2
 refine HX4.out _ _ ?_
 refine HKb4.out _ _ ?_
 obtain ⟨hb,hcp,e2,_,_,_,_,_⟩:=HM1.out.ch1 c hc
 change m.hv = .slice (some ⟨hb,0,none⟩) t.held.length hcp at e2
 have c2:=HM1.out.c2
 rw [e2] at c2
 have HE2:=ζ e2
 clear e2
 have q1 : (c : Int) < (t.held.length : Int):=by omega
 have q0 : (0 : Int) ≤ (c : Int):=by omega
 have HHC:=ζ hc
 clear hc
 obtain ⟨hn,hhn⟩ : ∃ hn,t.held.length = hn:=⟨_,rfl⟩
 rw [hhn] at q1 c2
 clear hhn
 have HCl : Hid (∀ W,Below X1.heap.size X1 W → Calls Try.prog 67 #[.pointer (some ⟨hb,c * 3,none⟩)] W (ShuQ o g s pa pc { t with evs:=t.evs ++ [⟨(k : Int),7,(c : Int),0,false⟩] } m c)):=fun W hW => pshut c hb hcp W (HM1.out.below hW) HHC.out HSL.out HE2.out
 refine wp_seq_k fun Kq hKq => ?_
 have HKq:=ζ hKq
 clear hKq
 refine wp_pan (fun ch w => POST (.panicked ch) w) (fun ch a w hd hr => HP4.out ch a w ⟨hd,hr⟩) ?_
 refine RG.wp_region_L (fun Z => Below X1.heap.size X1 Z) (fun Z => True) [7] (by kernel_rfl) ?_
 refine RG.wpL_any fun Yz3 hY => ?_
 have HBz3 : Hid (Below X1.heap.size X1 Yz3):=by rw [hY];exact below_drewN (Below.refl _ _) 1
 clear hY
 refine RG.wpL_takeS (fuel:=1) (a':=?Az3) [0,1,2,3,4,5,6] (by kernel_rfl) (by kernel_rfl) pan_put trivial (HBz3.out) ?rz3 ?_
 case rz3 =>
  iterate 3
   refine RG.rS ?_ (fun Z hT hS => ?_) ?_
   rotate_left
   ·go_simp
    rfl
   simp only [Act.put,lA,lB,lC,lD,lE,lF]
  refine RG.rS (.slice (some ⟨hb,0,none⟩) hn hcp) (fun Z hT hS => ?_) ?_
  ·have y1:=keepC hS z1;have y2:=keepC hS c2
   go_simp
  simp only [Act.put,lA,lB,lC,lD,lE,lF]
  refine RG.rS ?_ (fun Z hT hS => ?_) ?_
  rotate_left
  ·go_simp
   rfl
  simp only [Act.put,lA,lB,lC,lD,lE,lF]
  refine RG.rS (.int .i64 (c : Int)) (fun Z hT hS => ?_) ?_
  ·have y1:=keepC hS z1;have y2:=keepC hS c2
   go_simp
  simp only [Act.put,lA,lB,lC,lD,lE,lF]
  refine RG.rS ?_ (fun Z hT hS => ?_) ?_
  rotate_left
  ·go_simp
   rfl
  simp only [Act.put,lA,lB,lC,lD,lE,lF]
  exact RG.RunsS.nil
 refine RG.wpL_late (i:=7) (by kernel_rfl) (by rfl) (by rfl) (by kernel_rfl) (fun KX hK => ?_)
 have HK:=ζ hK
 clear hK
 go_simp
 refine (HCl.out _ HBz3.out).mono ?_
 rintro e_z3 w_z3 (⟨hl,rfl,hM⟩ | ⟨hl,rfl,hM⟩)
 ·refine ⟨rfl,?_⟩
  rw [HPo.out];exact DoQ.bad_ (HF7s.out hl) ⟨rfl,rfl,rfl,rfl,rfl⟩ rfl hM
 ·have HM2:=ζ hM
  have HF:=ζ (HF7.out hl)
  clear hM hl;refine HK.out _ _ trivial ?_
  clear HK KX;try simp only [Act.put,lA,lB,lC,lD,lE,lF]
  refine RG.wpL_done (by kernel_rfl) ?_ _
  refine HKq.out _ _ ?_;go_wp2;refine HZ4.out _ _ ?_;refine HKT.out _ _ ?_;go_wp2;rw [HPo.out];exact DoQ.ok_ HF.out ⟨rfl,rfl,rfl,rfl,rfl⟩ rfl HM2.out
theorem psh5 {o : World} {g : Nat} {s : Syst} {pa : Option Addr} {pc : Nat} {t : St} {m : PV} (k c r p : Nat) (a2 : Int) (eb ecap : Nat) (w : World) (h : PM o w g s pa pc { t with evs:=t.evs ++ [⟨(k : Int),5,0,0,false⟩] } m) (ho : Mc.Ok s) (hg : Mc.Good s t) (hk : k < t.rns.length) (hin : Mc.ins s t k = ⟨5,(c : Int),(r : Int),a2⟩) (hpo : (Mc.rn t k).pos = (p : Int)) (hat : aT s (Mc.rn t k) = (p : Int)) (hp1 : p ≤ 256) (hc : c < t.held.length) (hr : r < 8) (hq : (t.held.getD c []).length ≤ 1024) (he : m.ev = .slice (some ⟨eb,0,none⟩) (t.evs.length + 1) ecap) :
  Calls Try.prog 56 #[.pointer (some ⟨g,0,none⟩),.pointer (some ⟨m.ps.getD k 0,0,none⟩),.agg #[.int .i64 5,.int .i64 (c : Int),.int .i64 (r : Int),.int .i64 a2],.pointer (some ⟨eb,t.evs.length * 5,none⟩)] w (DoQ o g s pa pc t m k):=by
 obtain ⟨POST,hP⟩ : ∃ P,P = DoQ o g s pa pc t m k:=⟨_,rfl⟩
 have HPo:=ζ hP
 rw [← hP]
 clear hP
 have h8:=(hg.gr k hk).rl
 have hA0 : Below w.heap.size w (w.alloc (.cells #[.int .i64 5,.int .i64 (c : Int),.int .i64 (r : Int),.int .i64 a2] 68)):=(Below.refl _ _).alloc (Nat.le_refl _) _
 have NI0 : (w.alloc (.cells #[.int .i64 5,.int .i64 (c : Int),.int .i64 (r : Int),.int .i64 a2] 68)).heap[w.heap.size]? = some (.cells #[.int .i64 5,.int .i64 (c : Int),.int .i64 (r : Int),.int .i64 a2] 68 (0,0)):=heap_alloc_new w _
 have HM:=ζ (h.below hA0)
 have HI:=ζ NI0
 have HE:=ζ he
 have H8:=ζ h8
 have HKk:=ζ hk
 have HIn:=ζ hin
 have HPp:=ζ hpo
 have HG:=ζ hg
 have HOk:=ζ ho
 have x1 : (w.alloc (.cells #[.int .i64 5,.int .i64 (c : Int),.int .i64 (r : Int),.int .i64 a2] 68)).cell? ⟨m.ps.getD k 0,1,none⟩ = some (.int .i64 (p : Int)):=by rw [← hat];exact (HM.out.at1 k hk).1
 have HEB : Hid (∀ (W : World) (u : St),PM o W g s pa pc u m → u.evs.length = t.evs.length + 1 → ∃ cs,W.heap[eb]? = some (.cells cs 39 (0,0))):=fun W u hW hl => by
  obtain ⟨_,cur,hh⟩:=row_is (cap:=ecap) hW.evs (by rw [he,hl]) (by omega)
  exact ⟨cur,hh⟩
 have HRg : Hid (∀ (u : St) (W : World) (r : Nat),PM o W g s pa pc u m → u.rns.length = t.rns.length → r < 8 → W.cell? ⟨m.ps.getD k 0,2 + r,none⟩ = some (.int .i64 (reg u k (r : Int)))):=fun u W r hW hl hr => hW.reg1 k (by rw [hl];exact hk) r hr
 have HRf : Hid (∀ (u : St) (W : World),PM o W g s pa pc u m → u.rns.length = t.rns.length → ∀ j,W.frozen? ⟨m.ps.getD k 0,j,none⟩ = false):=fun u W hW hl j => hW.rfz k (by rw [hl];exact hk) j
 have HRB : Hid (∀ (u : St) (W : World),PM o W g s pa pc u m → u.rns.length = t.rns.length → ∃ cs,W.heap[m.ps.getD k 0]? = some (.cells cs 75 (0,0))):=fun u W hW hl => ⟨_,hW.rnB k (by rw [hl];exact hk)⟩
 have ep : IntKind.i64.wrap ((p : Int) + 1) = (p : Int) + 1:=by rw [IntKind.wrap_i64];omega
 have HF5 : Hid (t.shut.getD c false = false → _):=fun hl => by
  have hF_:=F5 (s:=s) (t:=t) (k:=k) (by rw [hin]) (by rw [hin,Int.toNat_natCast,hl];decide)
  simp only [hin,hpo,Int.toNat_natCast] at hF_
  exact hF_
 have HF5s : Hid (t.shut.getD c false = true → _):=fun hl => by
  have hF_:=F5s (s:=s) (t:=t) (k:=k) (by rw [hin]) (by rw [hin,Int.toNat_natCast];exact hl)
  simp only [hin,hpo,Int.toNat_natCast] at hF_
  exact hF_
 have HQl : Hid ((t.held.getD c []).length + 1 ≤ 1048576):=by show _ ≤ _;omega
 have HF : Hid (reg t k (r : Int) = reg t k (r : Int)):=rfl
 have r1 : (r : Int) < 8:=by omega
 have r0 : (0 : Int) ≤ (r : Int):=by omega
 clear hq
 obtain ⟨pk,hpk⟩ : ∃ pk,m.ps.getD k 0 = pk:=⟨_,rfl⟩
 have HPK:=ζ hpk
 rw [hpk] at HRg HRf HRB x1 ⊢
 obtain ⟨el,hel⟩ : ∃ el,t.evs.length = el:=⟨_,rfl⟩
 have HEL:=ζ hel
 rw [hel] at ⊢
 obtain ⟨fz_,cz_,_,_⟩:=HM.out.last1 he
 rw [hel] at cz_
 have fz:=fz_ (el * 5 + 2)
 have HM1 : Hid (PM o ((w.alloc (.cells #[.int .i64 5,.int .i64 (c : Int),.int .i64 (r : Int),.int .i64 a2] 68)).setCell ⟨eb,el * 5 + 2,none⟩ (.int .i64 (c : Int))) g s pa pc { t with evs:=t.evs ++ [⟨(k : Int),5,(c : Int),0,false⟩] } m):=by
  have:=HM.out.lastA he (c : Int)
  rw [hel] at this;exact this
 have HI1 : Hid (((w.alloc (.cells #[.int .i64 5,.int .i64 (c : Int),.int .i64 (r : Int),.int .i64 a2] 68)).setCell ⟨eb,el * 5 + 2,none⟩ (.int .i64 (c : Int))).heap[w.heap.size]? = some (.cells #[.int .i64 5,.int .i64 (c : Int),.int .i64 (r : Int),.int .i64 a2] 68 (0,0))):=by
  obtain ⟨cs,hcs⟩:=HEB.out _ _ HM.out (by simp)
  exact blk_setN HI.out hcs (by decide)
 clear h hA0 NI0 he h8 hin hpo hat hg ho hk hpk hel fz_ hp1
 go_enter Try.func56,Try.ntmps56
 refine wp_seq_k fun K0 hK0 => ?_
 have HK0:=ζ hK0
 clear hK0
 go_wp2
 refine HK0.out _ _ ?_
 clear HK0 K0
 generalize w.alloc _ = X at *
 generalize w.heap.size = gi at *
 obtain ⟨z0,z1,z2,z3⟩:=cellsY4 HI.out
 refine wp_seq_k fun K0 hK0 => ?_
 have HK0:=ζ hK0
 clear hK0
 go_wp2
 refine HK0.out _ _ ?_
 clear HK0 K0 x1 ep
 refine wp_seq_k fun K0 hK0 => ?_
 have HK0:=ζ hK0
 clear hK0
 go_wp2
 refine HK0.out _ _ ?_
 clear HK0 K0 HM HI z0 z1 z2 z3 fz cz_
 generalize World.setCell _ _ _ = X1 at *
 obtain ⟨z0,z1,z2,z3⟩:=cellsY4 HI1.out
 refine wp_seq_q fun KT QT hKT hNT hOT => ?_
 have HKT:=ζ hKT
 have HNT:=ζ hNT
 have HOT:=ζ hOT
 clear hKT hNT hOT
 refine wp_seq_k fun K0 hK0 => ?_
 have HK0:=ζ hK0
 clear hK0
 go_wp2
 refine HK0.out _ _ ?_
 clear HK0 K0
 refine wp_block_q fun Q0 hN0 hE0 hO0 => ?_
 have HN0:=ζ hN0
 have HE0:=ζ hE0
 have HO0:=ζ hO0
 clear hN0 hE0 hO0
 refine wp_seq_block_q fun Kb8 Q8 hKb8 hN8 hE8 hO8 => ?_
 have HKb8:=ζ hKb8
 have HN8:=ζ hN8
 have HE8:=ζ hE8
 have HO8:=ζ hO8
 clear hKb8 hN8 hE8 hO8
 refine wp_seq_block_q fun Kb7 Q7 hKb7 hN7 hE7 hO7 => ?_
 have HKb7:=ζ hKb7
 have HN7:=ζ hN7
 have HE7:=ζ hE7
 have HO7:=ζ hO7
 clear hKb7 hN7 hE7 hO7
 refine wp_seq_block_q fun Kb6 Q6 hKb6 hN6 hE6 hO6 => ?_
 have HKb6:=ζ hKb6
 have HN6:=ζ hN6
 have HE6:=ζ hE6
 have HO6:=ζ hO6
 clear hKb6 hN6 hE6 hO6
 refine wp_seq_block_q fun Kb5 Q5 hKb5 hN5 hE5 hO5 => ?_
 have HKb5:=ζ hKb5
 have HN5:=ζ hN5
 have HE5:=ζ hE5
 have HO5:=ζ hO5
 clear hKb5 hN5 hE5 hO5
 refine wp_seq_block_q fun Kb4 Q4 hKb4 hN4 hE4 hO4 => ?_
 have HKb4:=ζ hKb4
 have HN4:=ζ hN4
 have HE4:=ζ hE4
 have HO4:=ζ hO4
 clear hKb4 hN4 hE4 hO4
 refine wp_seq_block_q fun Kb3 Q3 hKb3 hN3 hE3 hO3 => ?_
 have HKb3:=ζ hKb3
 have HN3:=ζ hN3
 have HE3:=ζ hE3
 have HO3:=ζ hO3
 clear hKb3 hN3 hE3 hO3
 refine wp_seq_block_q fun Kb2 Q2 hKb2 hN2 hE2 hO2 => ?_
 have HKb2:=ζ hKb2
 have HN2:=ζ hN2
 have HE2:=ζ hE2
 have HO2:=ζ hO2
 clear hKb2 hN2 hE2 hO2
 refine wp_seq_block_q fun Kb1 Q1 hKb1 hN1 hE1 hO1 => ?_
 have HKb1:=ζ hKb1
 have HN1:=ζ hN1
 have HE1:=ζ hE1
 have HO1:=ζ hO1
 clear hKb1 hN1 hE1 hO1
 have HX8 : Hid (∀ a w,Kb8 a w → Q1 (.exit 8) a w):=fun a w hk => xZ HO1 8 (xZ HO2 8 (xZ HO3 8 (xZ HO4 8 (xZ HO5 8 (xZ HO6 8 (xZ HO7 8 (HE8.out a w hk)))))))
 have HR8 : Hid (∀ a w,_ → Q0 .ret a w):=fun a w hq => xR HO0 (xR HOT hq)
 have HP8 : Hid (∀ c a w,_ → Q0 (.panic c) a w):=fun c a w hq => xP HO0 (xP HOT hq)
 have HZ8 : Hid (∀ a w,KT a w → Q0 (.exit 0) a w):=fun a w hk => HE0.out a w (HNT.out a w hk)
 have HX7 : Hid (∀ a w,Kb7 a w → Q1 (.exit 7) a w):=fun a w hk => xZ HO1 7 (xZ HO2 7 (xZ HO3 7 (xZ HO4 7 (xZ HO5 7 (xZ HO6 7 (HE7.out a w hk))))))
 have HR7 : Hid (∀ a w,_ → Q8 .ret a w):=fun a w hq => xR HO8 (xR HO0 (xR HOT hq))
 have HP7 : Hid (∀ c a w,_ → Q8 (.panic c) a w):=fun c a w hq => xP HO8 (xP HO0 (xP HOT hq))
 have HZ7 : Hid (∀ a w,KT a w → Q8 (.exit 0) a w):=fun a w hk => xZ HO8 0 (HE0.out a w (HNT.out a w hk))
 have HX6 : Hid (∀ a w,Kb6 a w → Q1 (.exit 6) a w):=fun a w hk => xZ HO1 6 (xZ HO2 6 (xZ HO3 6 (xZ HO4 6 (xZ HO5 6 (HE6.out a w hk)))))
 have HR6 : Hid (∀ a w,_ → Q7 .ret a w):=fun a w hq => xR HO7 (xR HO8 (xR HO0 (xR HOT hq)))
 have HP6 : Hid (∀ c a w,_ → Q7 (.panic c) a w):=fun c a w hq => xP HO7 (xP HO8 (xP HO0 (xP HOT hq)))
 have HZ6 : Hid (∀ a w,KT a w → Q7 (.exit 0) a w):=fun a w hk => xZ HO7 0 (xZ HO8 0 (HE0.out a w (HNT.out a w hk)))
 have HX5 : Hid (∀ a w,Kb5 a w → Q1 (.exit 5) a w):=fun a w hk => xZ HO1 5 (xZ HO2 5 (xZ HO3 5 (xZ HO4 5 (HE5.out a w hk))))
 have HR5 : Hid (∀ a w,_ → Q6 .ret a w):=fun a w hq => xR HO6 (xR HO7 (xR HO8 (xR HO0 (xR HOT hq))))
 have HP5 : Hid (∀ c a w,_ → Q6 (.panic c) a w):=fun c a w hq => xP HO6 (xP HO7 (xP HO8 (xP HO0 (xP HOT hq))))
 have HZ5 : Hid (∀ a w,KT a w → Q6 (.exit 0) a w):=fun a w hk => xZ HO6 0 (xZ HO7 0 (xZ HO8 0 (HE0.out a w (HNT.out a w hk))))
 have HX4 : Hid (∀ a w,Kb4 a w → Q1 (.exit 4) a w):=fun a w hk => xZ HO1 4 (xZ HO2 4 (xZ HO3 4 (HE4.out a w hk)))
 have HR4 : Hid (∀ a w,_ → Q5 .ret a w):=fun a w hq => xR HO5 (xR HO6 (xR HO7 (xR HO8 (xR HO0 (xR HOT hq)))))
 have HP4 : Hid (∀ c a w,_ → Q5 (.panic c) a w):=fun c a w hq => xP HO5 (xP HO6 (xP HO7 (xP HO8 (xP HO0 (xP HOT hq)))))
 have HZ4 : Hid (∀ a w,KT a w → Q5 (.exit 0) a w):=fun a w hk => xZ HO5 0 (xZ HO6 0 (xZ HO7 0 (xZ HO8 0 (HE0.out a w (HNT.out a w hk)))))
 have HX3 : Hid (∀ a w,Kb3 a w → Q1 (.exit 3) a w):=fun a w hk => xZ HO1 3 (xZ HO2 3 (HE3.out a w hk))
 have HR3 : Hid (∀ a w,_ → Q4 .ret a w):=fun a w hq => xR HO4 (xR HO5 (xR HO6 (xR HO7 (xR HO8 (xR HO0 (xR HOT hq))))))
 have HP3 : Hid (∀ c a w,_ → Q4 (.panic c) a w):=fun c a w hq => xP HO4 (xP HO5 (xP HO6 (xP HO7 (xP HO8 (xP HO0 (xP HOT hq))))))
 have HZ3 : Hid (∀ a w,KT a w → Q4 (.exit 0) a w):=fun a w hk => xZ HO4 0 (xZ HO5 0 (xZ HO6 0 (xZ HO7 0 (xZ HO8 0 (HE0.out a w (HNT.out a w hk))))))
 have HX2 : Hid (∀ a w,Kb2 a w → Q1 (.exit 2) a w):=fun a w hk => xZ HO1 2 (HE2.out a w hk)
 have HR2 : Hid (∀ a w,_ → Q3 .ret a w):=fun a w hq => xR HO3 (xR HO4 (xR HO5 (xR HO6 (xR HO7 (xR HO8 (xR HO0 (xR HOT hq)))))))
 have HP2 : Hid (∀ c a w,_ → Q3 (.panic c) a w):=fun c a w hq => xP HO3 (xP HO4 (xP HO5 (xP HO6 (xP HO7 (xP HO8 (xP HO0 (xP HOT hq)))))))
 have HZ2 : Hid (∀ a w,KT a w → Q3 (.exit 0) a w):=fun a w hk => xZ HO3 0 (xZ HO4 0 (xZ HO5 0 (xZ HO6 0 (xZ HO7 0 (xZ HO8 0 (HE0.out a w (HNT.out a w hk)))))))
 have HX1 : Hid (∀ a w,Kb1 a w → Q1 (.exit 1) a w):=fun a w hk => HE1.out a w hk
 have HR1 : Hid (∀ a w,_ → Q2 .ret a w):=fun a w hq => xR HO2 (xR HO3 (xR HO4 (xR HO5 (xR HO6 (xR HO7 (xR HO8 (xR HO0 (xR HOT hq))))))))
 have HP1 : Hid (∀ c a w,_ → Q2 (.panic c) a w):=fun c a w hq => xP HO2 (xP HO3 (xP HO4 (xP HO5 (xP HO6 (xP HO7 (xP HO8 (xP HO0 (xP HOT hq))))))))
 have HZ1 : Hid (∀ a w,KT a w → Q2 (.exit 0) a w):=fun a w hk => xZ HO2 0 (xZ HO3 0 (xZ HO4 0 (xZ HO5 0 (xZ HO6 0 (xZ HO7 0 (xZ HO8 0 (HE0.out a w (HNT.out a w hk))))))))
 have HZx : Hid (∀ a w,KT a w → Q1 (.exit 0) a w):=fun a w hk => xZ HO1 0 (xZ HO2 0 (xZ HO3 0 (xZ HO4 0 (xZ HO5 0 (xZ HO6 0 (xZ HO7 0 (xZ HO8 0 (HE0.out a w (HNT.out a w hk)))))))))
 clear HE0 HO0 HE8 HO8 HE7 HO7 HE6 HO6 HE5 HO5 HE4 HO4 HE3 HO3 HE2 HO2 HE1 HO1 HN0 HNT
 refine wp_seq_k fun Kx hKx => ?_
 have HKx:=ζ hKx
 clear hKx
 refine wp_seq_k fun Kr hKr => ?_
 have HKr:=ζ hKr
 clear hKr
 go_wp2
 refine HX1.out _ _ ?_
 refine HKb1.out _ _ ?_
 refine wp_seq_k fun Kz hKz => ?_
 have HKz:=ζ hKz
 clear hKz
 have xq:=HRg.out _ X1 r HM1.out rfl hr
 obtain ⟨vb,hvb⟩ : ∃ vb,reg t k (r : Int) = vb:=⟨_,rfl⟩
 change X1.cell? _ = some (.int .i64 (reg t k (r : Int))) at xq
 rw [hvb] at xq
 have HVb:=ζ hvb
 clear hvb
 refine wp_seq_k fun Kq hKq => ?_
 have HKq:=ζ hKq
 clear hKq
 refine wp_region_noPanic ?_
 refine RG.wp_region_L (fun Z => Below X1.heap.size X1 Z) (fun Z => True) [10] (by kernel_rfl) ?_
 refine RG.wpL_any fun Yz4 hY => ?_
 have HBz4 : Hid (Below X1.heap.size X1 Yz4):=by rw [hY];exact below_drewN (Below.refl _ _) 1
 clear hY
 refine RG.wpL_take (fuel:=1) (a':=?Az4) [0,1,2,3,4,5,6,7,8,9] (by kernel_rfl) (by kernel_rfl) (fun _ _ _ _ _ h => h) trivial (fun _ => HBz4.out) ?rz4 ?_
 case rz4 =>
  iterate 3
   refine RG.rW ?_ (fun Z hT => ?_) ?_
   rotate_left
   ·go_simp
    rfl
   simp only [Act.put,lA,lB,lC,lD,lE,lF]
  refine RG.RunsIf.strong (v:=.int .i64 (r : Int)) (by rfl) (by kernel_rfl) (by rfl) (fun Z hT hS => ?_) ?_
  ·have y1:=keepC hS z2;have y2:=keepC hS xq
   go_simp
  simp only [Act.put,lA,lB,lC,lD,lE,lF]
  iterate 3
   refine RG.rW ?_ (fun Z hT => ?_) ?_
   rotate_left
   ·go_simp
    rfl
   simp only [Act.put,lA,lB,lC,lD,lE,lF]
  refine RG.RunsIf.strong (v:=.int .i64 vb) (by rfl) (by kernel_rfl) (by rfl) (fun Z hT hS => ?_) ?_
  ·have y1:=keepC hS z2;have y2:=keepC hS xq
   go_simp
  simp only [Act.put,lA,lB,lC,lD,lE,lF]
  iterate 2
   refine RG.rW ?_ (fun Z hT => ?_) ?_
   rotate_left
   ·go_simp
    rfl
   simp only [Act.put,lA,lB,lC,lD,lE,lF]
  exact RG.RunsIf.nil
 have HMq:=ζ (HM1.out.below HBz4.out)
 have HIq:=ζ (blk_keep HI1.out HBz4.out)
 obtain ⟨fz_,_,cz_,_⟩:=HMq.out.last1 HE.out
 rw [HEL.out] at cz_
 have cz:=cz_
 have fz:=fz_ (el * 5 + 3)
 clear fz_ cz_
 refine RG.wpL_late (i:=10) (by kernel_rfl) (by rfl) (by rfl) (by kernel_rfl) (fun KX hK => ?_)
 have HK:=ζ hK
 clear hK
 go_simp
 refine HK.out _ _ trivial ?_
 clear HK KX cz fz
 refine RG.wpL_done (by kernel_rfl) ?_ _
 refine NoPanic.normal ?_
 have HM2:=ζ (HMq.out.lastV HE.out (reg t k (r : Int)))
 have HI2 : Hid ((Yz4.setCell ⟨eb,t.evs.length * 5 + 3,none⟩ (.int .i64 (reg t k (r : Int)))).heap[gi]? = some (.cells #[.int .i64 5,.int .i64 (c : Int),.int .i64 (r : Int),.int .i64 a2] 68 (0,0))):=by
  obtain ⟨cs,hcs⟩:=HEB.out _ _ HMq.out (by simp)
  exact blk_setN HIq.out hcs (by decide)
 rw [HEL.out,HVb.out] at HM2 HI2
 rw [HVb.out] at HF5 HF5s
 refine HKq.out _ _ ?_
 clear HKq HMq HIq xq z0 z1 z2 z3
 generalize World.setCell _ _ _ = X2 at *
 obtain ⟨z0,z1,z2,z3⟩:=cellsY4 HI2.out
 obtain ⟨hb,hcp,e2,_,_,_,_,_⟩:=HM2.out.ch1 c hc
 change m.hv = .slice (some ⟨hb,0,none⟩) t.held.length hcp at e2
 have c2:=HM2.out.c2
 rw [e2] at c2
 have HE2:=ζ e2
 clear e2
 have q1 : (c : Int) < (t.held.length : Int):=by omega
 have q0 : (0 : Int) ≤ (c : Int):=by omega
 have HHC:=ζ hc
 clear hc
 obtain ⟨hn,hhn⟩ : ∃ hn,t.held.length = hn:=⟨_,rfl⟩
 rw [hhn] at q1 c2
 clear hhn
 obtain ⟨_,_,xv,_⟩:=HM2.out.last1 HE.out
 rw [HEL.out] at xv
 have HCl : Hid (∀ W,Below X2.heap.size X2 W → Calls Try.prog 65 #[.pointer (some ⟨hb,c * 3,none⟩),.int .i64 vb] W (PutQ o g s pa pc { t with evs:=t.evs ++ [⟨(k : Int),5,(c : Int),vb,false⟩] } m c vb)):=fun W hW => pput c vb hb hcp W (HM2.out.below hW) HHC.out HE2.out HQl.out
 refine wp_pan (fun ch w => POST (.panicked ch) w) (fun ch a w hd hr => HP1.out ch a w ⟨hd,hr⟩) ?_
 refine RG.wp_region_L (fun Z => Below X2.heap.size X2 Z) (fun Z => True) [11] (by kernel_rfl) ?_
 refine RG.wpL_any fun Yz5 hY => ?_
 have HBz5 : Hid (Below X2.heap.size X2 Yz5):=by rw [hY];exact below_drewN (Below.refl _ _) 1
 clear hY
 refine RG.wpL_takeS (fuel:=1) (a':=?Az5) [0,1,2,3,4,5,6,7,8,9,10] (by kernel_rfl) (by kernel_rfl) pan_put trivial (HBz5.out) ?rz5 ?_
 case rz5 =>
  iterate 3
   refine RG.rS ?_ (fun Z hT hS => ?_) ?_
   rotate_left
   ·go_simp
    rfl
   simp only [Act.put,lA,lB,lC,lD,lE,lF]
  refine RG.rS (.slice (some ⟨hb,0,none⟩) hn hcp) (fun Z hT hS => ?_) ?_
  ·have y1:=keepC hS z1;have y2:=keepC hS c2;have y3:=keepC hS xv
   go_simp
  simp only [Act.put,lA,lB,lC,lD,lE,lF]
  refine RG.rS ?_ (fun Z hT hS => ?_) ?_
  rotate_left
  ·go_simp
   rfl
  simp only [Act.put,lA,lB,lC,lD,lE,lF]
  refine RG.rS (.int .i64 (c : Int)) (fun Z hT hS => ?_) ?_
  ·have y1:=keepC hS z1;have y2:=keepC hS c2;have y3:=keepC hS xv
   go_simp
  simp only [Act.put,lA,lB,lC,lD,lE,lF]
  iterate 4
   refine RG.rS ?_ (fun Z hT hS => ?_) ?_
   rotate_left
   ·go_simp
    rfl
   simp only [Act.put,lA,lB,lC,lD,lE,lF]
  refine RG.rS (.int .i64 vb) (fun Z hT hS => ?_) ?_
  ·have y1:=keepC hS z1;have y2:=keepC hS c2;have y3:=keepC hS xv
   go_simp
  simp only [Act.put,lA,lB,lC,lD,lE,lF]
  exact RG.RunsS.nil
 refine RG.wpL_late (i:=11) (by kernel_rfl) (by rfl) (by rfl) (by kernel_rfl) (fun KX hK => ?_)
 have HK:=ζ hK
 clear hK
 go_simp
 refine (HCl.out _ HBz5.out).mono ?_
 rintro e_z5 w_z5 (⟨hl,rfl,hM⟩ | ⟨hl,rfl,q_,hM⟩)
 ·refine ⟨rfl,?_⟩
  rw [HPo.out];exact DoQ.bad_ (HF5s.out hl) ⟨rfl,rfl,rfl,rfl,rfl⟩ rfl hM
 ·have HM3:=ζ hM
  have HF_:=ζ (HF5.out hl)
  clear hM hl;refine HK.out _ _ trivial ?_
  clear HK KX;try simp only [Act.put,lA,lB,lC,lD,lE,lF]
  refine RG.wpL_done (by kernel_rfl) ?_ _
  refine HKz.out _ _ ?_;go_wp2;refine HZ1.out _ _ ?_;refine HKT.out _ _ ?_;go_wp2;rw [HPo.out];exact DoQ.ok_ (m':={ m with qs:=m.qs.set c q_ }) HF_.out ⟨rfl,rfl,rfl,rfl,rfl⟩ rfl HM3.out
theorem psh10 {o : World} {g : Nat} {s : Syst} {pa : Option Addr} {pc : Nat} {t : St} {m : PV} (k c p : Nat) (a1 a2 : Int) (eb ecap : Nat) (w : World) (h : PM o w g s pa pc { t with evs:=t.evs ++ [⟨(k : Int),10,0,0,false⟩] } m) (ho : Mc.Ok s) (hg : Mc.Good s t) (hk : k < t.rns.length) (hin : Mc.ins s t k = ⟨10,(c : Int),a1,a2⟩) (hpo : (Mc.rn t k).pos = (p : Int)) (hat : aT s (Mc.rn t k) = (p : Int)) (hp1 : p ≤ 256) (hc : c < t.groups.length) (he : m.ev = .slice (some ⟨eb,0,none⟩) (t.evs.length + 1) ecap) :
  Calls Try.prog 56 #[.pointer (some ⟨g,0,none⟩),.pointer (some ⟨m.ps.getD k 0,0,none⟩),.agg #[.int .i64 10,.int .i64 (c : Int),.int .i64 a1,.int .i64 a2],.pointer (some ⟨eb,t.evs.length * 5,none⟩)] w (DoQ o g s pa pc t m k):=by
 obtain ⟨POST,hP⟩ : ∃ P,P = DoQ o g s pa pc t m k:=⟨_,rfl⟩
 have HPo:=ζ hP
 rw [← hP]
 clear hP
 have h8:=(hg.gr k hk).rl
 have hA0 : Below w.heap.size w (w.alloc (.cells #[.int .i64 10,.int .i64 (c : Int),.int .i64 a1,.int .i64 a2] 68)):=(Below.refl _ _).alloc (Nat.le_refl _) _
 have NI0 : (w.alloc (.cells #[.int .i64 10,.int .i64 (c : Int),.int .i64 a1,.int .i64 a2] 68)).heap[w.heap.size]? = some (.cells #[.int .i64 10,.int .i64 (c : Int),.int .i64 a1,.int .i64 a2] 68 (0,0)):=heap_alloc_new w _
 have HM:=ζ (h.below hA0)
 have HI:=ζ NI0
 have HE:=ζ he
 have H8:=ζ h8
 have HKk:=ζ hk
 have HIn:=ζ hin
 have HPp:=ζ hpo
 have HG:=ζ hg
 have HOk:=ζ ho
 have x1 : (w.alloc (.cells #[.int .i64 10,.int .i64 (c : Int),.int .i64 a1,.int .i64 a2] 68)).cell? ⟨m.ps.getD k 0,1,none⟩ = some (.int .i64 (p : Int)):=by rw [← hat];exact (HM.out.at1 k hk).1
 have HEB : Hid (∀ (W : World) (u : St),PM o W g s pa pc u m → u.evs.length = t.evs.length + 1 → ∃ cs,W.heap[eb]? = some (.cells cs 39 (0,0))):=fun W u hW hl => by
  obtain ⟨_,cur,hh⟩:=row_is (cap:=ecap) hW.evs (by rw [he,hl]) (by omega)
  exact ⟨cur,hh⟩
 have HRg : Hid (∀ (u : St) (W : World) (r : Nat),PM o W g s pa pc u m → u.rns.length = t.rns.length → r < 8 → W.cell? ⟨m.ps.getD k 0,2 + r,none⟩ = some (.int .i64 (reg u k (r : Int)))):=fun u W r hW hl hr => hW.reg1 k (by rw [hl];exact hk) r hr
 have HRf : Hid (∀ (u : St) (W : World),PM o W g s pa pc u m → u.rns.length = t.rns.length → ∀ j,W.frozen? ⟨m.ps.getD k 0,j,none⟩ = false):=fun u W hW hl j => hW.rfz k (by rw [hl];exact hk) j
 have HRB : Hid (∀ (u : St) (W : World),PM o W g s pa pc u m → u.rns.length = t.rns.length → ∃ cs,W.heap[m.ps.getD k 0]? = some (.cells cs 75 (0,0))):=fun u W hW hl => ⟨_,hW.rnB k (by rw [hl];exact hk)⟩
 have ep : IntKind.i64.wrap ((p : Int) + 1) = (p : Int) + 1:=by rw [IntKind.wrap_i64];omega
 have hgr : grp s t k = IntKind.i64.wrap (t.groups.getD c 0 + a1):=by unfold grp;rw [hin,Int.toNat_natCast]
 have HGr:=ζ hgr
 clear hgr
 have HF10 : Hid (¬ grp s t k < 0 → _):=fun hl => by
  have hF_:=F10 (s:=s) (t:=t) (k:=k) (by rw [hin]) hl
  simp only [hin,hpo,Int.toNat_natCast] at hF_
  exact hF_
 have HF10e : Hid (grp s t k < 0 → _):=fun hl => by
  have hF_:=F10e (s:=s) (t:=t) (k:=k) (by rw [hin]) hl
  simp only [hin,hpo,Int.toNat_natCast] at hF_
  exact hF_
 obtain ⟨pk,hpk⟩ : ∃ pk,m.ps.getD k 0 = pk:=⟨_,rfl⟩
 have HPK:=ζ hpk
 rw [hpk] at HRg HRf HRB x1 ⊢
 obtain ⟨el,hel⟩ : ∃ el,t.evs.length = el:=⟨_,rfl⟩
 have HEL:=ζ hel
 rw [hel] at ⊢
 obtain ⟨fz_,cz_,_,_⟩:=HM.out.last1 he
 rw [hel] at cz_
 have fz:=fz_ (el * 5 + 2)
 have HM1 : Hid (PM o ((w.alloc (.cells #[.int .i64 10,.int .i64 (c : Int),.int .i64 a1,.int .i64 a2] 68)).setCell ⟨eb,el * 5 + 2,none⟩ (.int .i64 (c : Int))) g s pa pc { t with evs:=t.evs ++ [⟨(k : Int),10,(c : Int),0,false⟩] } m):=by
  have:=HM.out.lastA he (c : Int)
  rw [hel] at this;exact this
 have HI1 : Hid (((w.alloc (.cells #[.int .i64 10,.int .i64 (c : Int),.int .i64 a1,.int .i64 a2] 68)).setCell ⟨eb,el * 5 + 2,none⟩ (.int .i64 (c : Int))).heap[w.heap.size]? = some (.cells #[.int .i64 10,.int .i64 (c : Int),.int .i64 a1,.int .i64 a2] 68 (0,0))):=by
  obtain ⟨cs,hcs⟩:=HEB.out _ _ HM.out (by simp)
  exact blk_setN HI.out hcs (by decide)
 clear h hA0 NI0 he h8 hin hpo hat hg ho hk hpk hel fz_ hp1
 go_enter Try.func56,Try.ntmps56
 refine wp_seq_k fun K0 hK0 => ?_
 have HK0:=ζ hK0
 clear hK0
 go_wp2
 refine HK0.out _ _ ?_
 clear HK0 K0
 generalize w.alloc _ = X at *
 generalize w.heap.size = gi at *
 obtain ⟨z0,z1,z2,z3⟩:=cellsY4 HI.out
 refine wp_seq_k fun K0 hK0 => ?_
 have HK0:=ζ hK0
 clear hK0
 go_wp2
 refine HK0.out _ _ ?_
 clear HK0 K0 x1 ep
 refine wp_seq_k fun K0 hK0 => ?_
 have HK0:=ζ hK0
 clear hK0
 go_wp2
 refine HK0.out _ _ ?_
 clear HK0 K0 HM HI z0 z1 z2 z3 fz cz_
 generalize World.setCell _ _ _ = X1 at *
 obtain ⟨z0,z1,z2,z3⟩:=cellsY4 HI1.out
 refine wp_seq_q fun KT QT hKT hNT hOT => ?_
 have HKT:=ζ hKT
 have HNT:=ζ hNT
 have HOT:=ζ hOT
 clear hKT hNT hOT
 refine wp_seq_k fun K0 hK0 => ?_
 have HK0:=ζ hK0
 clear hK0
 go_wp2
 refine HK0.out _ _ ?_
 clear HK0 K0
 refine wp_block_q fun Q0 hN0 hE0 hO0 => ?_
 have HN0:=ζ hN0
 have HE0:=ζ hE0
 have HO0:=ζ hO0
 clear hN0 hE0 hO0
 refine wp_seq_block_q fun Kb8 Q8 hKb8 hN8 hE8 hO8 => ?_
 have HKb8:=ζ hKb8
 have HN8:=ζ hN8
 have HE8:=ζ hE8
 have HO8:=ζ hO8
 clear hKb8 hN8 hE8 hO8
 refine wp_seq_block_q fun Kb7 Q7 hKb7 hN7 hE7 hO7 => ?_
 have HKb7:=ζ hKb7
 have HN7:=ζ hN7
 have HE7:=ζ hE7
 have HO7:=ζ hO7
 clear hKb7 hN7 hE7 hO7
 refine wp_seq_block_q fun Kb6 Q6 hKb6 hN6 hE6 hO6 => ?_
 have HKb6:=ζ hKb6
 have HN6:=ζ hN6
 have HE6:=ζ hE6
 have HO6:=ζ hO6
 clear hKb6 hN6 hE6 hO6
 refine wp_seq_block_q fun Kb5 Q5 hKb5 hN5 hE5 hO5 => ?_
 have HKb5:=ζ hKb5
 have HN5:=ζ hN5
 have HE5:=ζ hE5
 have HO5:=ζ hO5
 clear hKb5 hN5 hE5 hO5
 refine wp_seq_block_q fun Kb4 Q4 hKb4 hN4 hE4 hO4 => ?_
 have HKb4:=ζ hKb4
 have HN4:=ζ hN4
 have HE4:=ζ hE4
 have HO4:=ζ hO4
 clear hKb4 hN4 hE4 hO4
 refine wp_seq_block_q fun Kb3 Q3 hKb3 hN3 hE3 hO3 => ?_
 have HKb3:=ζ hKb3
 have HN3:=ζ hN3
 have HE3:=ζ hE3
 have HO3:=ζ hO3
 clear hKb3 hN3 hE3 hO3
 refine wp_seq_block_q fun Kb2 Q2 hKb2 hN2 hE2 hO2 => ?_
 have HKb2:=ζ hKb2
 have HN2:=ζ hN2
 have HE2:=ζ hE2
 have HO2:=ζ hO2
 clear hKb2 hN2 hE2 hO2
 refine wp_seq_block_q fun Kb1 Q1 hKb1 hN1 hE1 hO1 => ?_
 have HKb1:=ζ hKb1
 have HN1:=ζ hN1
 have HE1:=ζ hE1
 have HO1:=ζ hO1
 clear hKb1 hN1 hE1 hO1
 have HX8 : Hid (∀ a w,Kb8 a w → Q1 (.exit 8) a w):=fun a w hk => xZ HO1 8 (xZ HO2 8 (xZ HO3 8 (xZ HO4 8 (xZ HO5 8 (xZ HO6 8 (xZ HO7 8 (HE8.out a w hk)))))))
 have HR8 : Hid (∀ a w,_ → Q0 .ret a w):=fun a w hq => xR HO0 (xR HOT hq)
 have HP8 : Hid (∀ c a w,_ → Q0 (.panic c) a w):=fun c a w hq => xP HO0 (xP HOT hq)
 have HZ8 : Hid (∀ a w,KT a w → Q0 (.exit 0) a w):=fun a w hk => HE0.out a w (HNT.out a w hk)
 have HX7 : Hid (∀ a w,Kb7 a w → Q1 (.exit 7) a w):=fun a w hk => xZ HO1 7 (xZ HO2 7 (xZ HO3 7 (xZ HO4 7 (xZ HO5 7 (xZ HO6 7 (HE7.out a w hk))))))
 have HR7 : Hid (∀ a w,_ → Q8 .ret a w):=fun a w hq => xR HO8 (xR HO0 (xR HOT hq))
 have HP7 : Hid (∀ c a w,_ → Q8 (.panic c) a w):=fun c a w hq => xP HO8 (xP HO0 (xP HOT hq))
 have HZ7 : Hid (∀ a w,KT a w → Q8 (.exit 0) a w):=fun a w hk => xZ HO8 0 (HE0.out a w (HNT.out a w hk))
 have HX6 : Hid (∀ a w,Kb6 a w → Q1 (.exit 6) a w):=fun a w hk => xZ HO1 6 (xZ HO2 6 (xZ HO3 6 (xZ HO4 6 (xZ HO5 6 (HE6.out a w hk)))))
 have HR6 : Hid (∀ a w,_ → Q7 .ret a w):=fun a w hq => xR HO7 (xR HO8 (xR HO0 (xR HOT hq)))
 have HP6 : Hid (∀ c a w,_ → Q7 (.panic c) a w):=fun c a w hq => xP HO7 (xP HO8 (xP HO0 (xP HOT hq)))
 have HZ6 : Hid (∀ a w,KT a w → Q7 (.exit 0) a w):=fun a w hk => xZ HO7 0 (xZ HO8 0 (HE0.out a w (HNT.out a w hk)))
 have HX5 : Hid (∀ a w,Kb5 a w → Q1 (.exit 5) a w):=fun a w hk => xZ HO1 5 (xZ HO2 5 (xZ HO3 5 (xZ HO4 5 (HE5.out a w hk))))
 have HR5 : Hid (∀ a w,_ → Q6 .ret a w):=fun a w hq => xR HO6 (xR HO7 (xR HO8 (xR HO0 (xR HOT hq))))
 have HP5 : Hid (∀ c a w,_ → Q6 (.panic c) a w):=fun c a w hq => xP HO6 (xP HO7 (xP HO8 (xP HO0 (xP HOT hq))))
 have HZ5 : Hid (∀ a w,KT a w → Q6 (.exit 0) a w):=fun a w hk => xZ HO6 0 (xZ HO7 0 (xZ HO8 0 (HE0.out a w (HNT.out a w hk))))
 have HX4 : Hid (∀ a w,Kb4 a w → Q1 (.exit 4) a w):=fun a w hk => xZ HO1 4 (xZ HO2 4 (xZ HO3 4 (HE4.out a w hk)))
 have HR4 : Hid (∀ a w,_ → Q5 .ret a w):=fun a w hq => xR HO5 (xR HO6 (xR HO7 (xR HO8 (xR HO0 (xR HOT hq)))))
 have HP4 : Hid (∀ c a w,_ → Q5 (.panic c) a w):=fun c a w hq => xP HO5 (xP HO6 (xP HO7 (xP HO8 (xP HO0 (xP HOT hq)))))
 have HZ4 : Hid (∀ a w,KT a w → Q5 (.exit 0) a w):=fun a w hk => xZ HO5 0 (xZ HO6 0 (xZ HO7 0 (xZ HO8 0 (HE0.out a w (HNT.out a w hk)))))
 have HX3 : Hid (∀ a w,Kb3 a w → Q1 (.exit 3) a w):=fun a w hk => xZ HO1 3 (xZ HO2 3 (HE3.out a w hk))
 have HR3 : Hid (∀ a w,_ → Q4 .ret a w):=fun a w hq => xR HO4 (xR HO5 (xR HO6 (xR HO7 (xR HO8 (xR HO0 (xR HOT hq))))))
 have HP3 : Hid (∀ c a w,_ → Q4 (.panic c) a w):=fun c a w hq => xP HO4 (xP HO5 (xP HO6 (xP HO7 (xP HO8 (xP HO0 (xP HOT hq))))))
 have HZ3 : Hid (∀ a w,KT a w → Q4 (.exit 0) a w):=fun a w hk => xZ HO4 0 (xZ HO5 0 (xZ HO6 0 (xZ HO7 0 (xZ HO8 0 (HE0.out a w (HNT.out a w hk))))))
 have HX2 : Hid (∀ a w,Kb2 a w → Q1 (.exit 2) a w):=fun a w hk => xZ HO1 2 (HE2.out a w hk)
 have HR2 : Hid (∀ a w,_ → Q3 .ret a w):=fun a w hq => xR HO3 (xR HO4 (xR HO5 (xR HO6 (xR HO7 (xR HO8 (xR HO0 (xR HOT hq)))))))
 have HP2 : Hid (∀ c a w,_ → Q3 (.panic c) a w):=fun c a w hq => xP HO3 (xP HO4 (xP HO5 (xP HO6 (xP HO7 (xP HO8 (xP HO0 (xP HOT hq)))))))
 have HZ2 : Hid (∀ a w,KT a w → Q3 (.exit 0) a w):=fun a w hk => xZ HO3 0 (xZ HO4 0 (xZ HO5 0 (xZ HO6 0 (xZ HO7 0 (xZ HO8 0 (HE0.out a w (HNT.out a w hk)))))))
 have HX1 : Hid (∀ a w,Kb1 a w → Q1 (.exit 1) a w):=fun a w hk => HE1.out a w hk
 have HR1 : Hid (∀ a w,_ → Q2 .ret a w):=fun a w hq => xR HO2 (xR HO3 (xR HO4 (xR HO5 (xR HO6 (xR HO7 (xR HO8 (xR HO0 (xR HOT hq))))))))
 have HP1 : Hid (∀ c a w,_ → Q2 (.panic c) a w):=fun c a w hq => xP HO2 (xP HO3 (xP HO4 (xP HO5 (xP HO6 (xP HO7 (xP HO8 (xP HO0 (xP HOT hq))))))))
 have HZ1 : Hid (∀ a w,KT a w → Q2 (.exit 0) a w):=fun a w hk => xZ HO2 0 (xZ HO3 0 (xZ HO4 0 (xZ HO5 0 (xZ HO6 0 (xZ HO7 0 (xZ HO8 0 (HE0.out a w (HNT.out a w hk))))))))
 have HZx : Hid (∀ a w,KT a w → Q1 (.exit 0) a w):=fun a w hk => xZ HO1 0 (xZ HO2 0 (xZ HO3 0 (xZ HO4 0 (xZ HO5 0 (xZ HO6 0 (xZ HO7 0 (xZ HO8 0 (HE0.out a w (HNT.out a w hk)))))))))
 clear HE0 HO0 HE8 HO8 HE7 HO7 HE6 HO6 HE5 HO5 HE4 HO4 HE3 HO3 HE2 HO2 HE1 HO1 HN0 HNT
 refine wp_seq_k fun Kx hKx => ?_
 have HKx:=ζ hKx
 clear hKx
 refine wp_seq_k fun Kr hKr => ?_
 have HKr:=ζ hKr
 clear hKr
 go_wp2
 refine HKr.out _ _ ?_
 clear HKr Kr
 refine wp_seq_k fun Kr hKr => ?_
 have HKr:=ζ hKr
 clear hKr
 go_wp2
 refine HKr.out _ _ ?_
 clear HKr Kr
 refine wp_seq_k fun Kr hKr => ?_
 have HKr:=ζ hKr
 clear hKr
 go_wp2
 refine HKr.out _ _ ?_
 clear HKr Kr
 refine wp_seq_k fun Kr hKr => ?_
 have HKr:=ζ hKr
 clear hKr
 go_wp2
 refine HKr.out _ _ ?_
 clear HKr Kr
 refine wp_seq_k fun Kr hKr => ?_
 have HKr:=ζ hKr
 clear hKr
 go_wp2
 refine HKr.out _ _ ?_
 clear HKr Kr
 refine wp_seq_k fun Kr hKr => ?_
 have HKr:=ζ hKr
 clear hKr
 go_wp2
 refine HKr.out _ _ ?_
 clear HKr Kr
 refine wp_seq_k fun Kr hKr => ?_
 have HKr:=ζ hKr
 clear hKr
 go_wp2
 refine HX7.out _ _ ?_
 refine HKb7.out _ _ ?_
 obtain ⟨gb_,gcp,e3,_,_,x0⟩:=HM1.out.gr1 c hc
 change m.gv = .slice (some ⟨gb_,0,none⟩) t.groups.length gcp at e3
 change X1.cell? _ = some (.int .i64 (t.groups.getD c 0)) at x0
 have c3:=HM1.out.c3
 rw [e3] at c3
 have HE3:=ζ e3
 clear e3
 have q1 : (c : Int) < (t.groups.length : Int):=by omega
 have q0 : (0 : Int) ≤ (c : Int):=by omega
 have HHC:=ζ hc
 clear hc
 obtain ⟨gn,hgn⟩ : ∃ gn,t.groups.length = gn:=⟨_,rfl⟩
 rw [hgn] at q1 c3
 clear hgn
 obtain ⟨gx_,hgx⟩ : ∃ x,t.groups.getD c 0 = x:=⟨_,rfl⟩
 rw [hgx] at x0 HGr
 clear hgx
 obtain ⟨gw,hgw⟩ : ∃ x,grp s t k = x:=⟨_,rfl⟩
 rw [hgw] at HGr HF10 HF10e
 clear hgw
 have ew : IntKind.i64.wrap (gx_ + a1) = gw:=HGr.out.symm
 refine wp_seq_k fun Kz hKz => ?_
 have HKz:=ζ hKz
 clear hKz
 refine wp_seq_k fun Kq hKq => ?_
 have HKq:=ζ hKq
 clear hKq
 refine wp_region_noPanic ?_
 refine RG.wp_region_L (fun Z => Below X1.heap.size X1 Z) (fun Z => True) [14] (by kernel_rfl) ?_
 refine RG.wpL_any fun Yz6 hY => ?_
 have HBz6 : Hid (Below X1.heap.size X1 Yz6):=by rw [hY];exact below_drewN (Below.refl _ _) 1
 clear hY
 refine RG.wpL_take (fuel:=1) (a':=?Az6) [0,1,2,3,4,5,6,7,8,9,10,11,12,13] (by kernel_rfl) (by kernel_rfl) (fun _ _ _ _ _ h => h) trivial (fun _ => HBz6.out) ?rz6 ?_
 case rz6 =>
  iterate 4
   refine RG.rW ?_ (fun Z hT => ?_) ?_
   rotate_left
   ·go_simp
    rfl
   simp only [Act.put,lA,lB,lC,lD,lE,lF]
  refine RG.RunsIf.strong (v:=.slice (some ⟨gb_,0,none⟩) gn gcp) (by rfl) (by kernel_rfl) (by rfl) (fun Z hT hS => ?_) ?_
  ·have y1:=keepC hS z1;have y2:=keepC hS c3;have y3:=keepC hS x0;have y4:=keepC hS z2
   go_simp
  simp only [Act.put,lA,lB,lC,lD,lE,lF]
  refine RG.rW ?_ (fun Z hT => ?_) ?_
  rotate_left
  ·go_simp
   rfl
  simp only [Act.put,lA,lB,lC,lD,lE,lF]
  refine RG.RunsIf.strong (v:=.int .i64 (c : Int)) (by rfl) (by kernel_rfl) (by rfl) (fun Z hT hS => ?_) ?_
  ·have y1:=keepC hS z1;have y2:=keepC hS c3;have y3:=keepC hS x0;have y4:=keepC hS z2
   go_simp
  simp only [Act.put,lA,lB,lC,lD,lE,lF]
  refine RG.rW ?_ (fun Z hT => ?_) ?_
  rotate_left
  ·go_simp
   rfl
  simp only [Act.put,lA,lB,lC,lD,lE,lF]
  refine RG.RunsIf.strong (v:=.int .i64 gx_) (by rfl) (by kernel_rfl) (by rfl) (fun Z hT hS => ?_) ?_
  ·have y1:=keepC hS z1;have y2:=keepC hS c3;have y3:=keepC hS x0;have y4:=keepC hS z2
   go_simp
  simp only [Act.put,lA,lB,lC,lD,lE,lF]
  refine RG.rW ?_ (fun Z hT => ?_) ?_
  rotate_left
  ·go_simp
   rfl
  simp only [Act.put,lA,lB,lC,lD,lE,lF]
  refine RG.RunsIf.strong (v:=.int .i64 a1) (by rfl) (by kernel_rfl) (by rfl) (fun Z hT hS => ?_) ?_
  ·have y1:=keepC hS z1;have y2:=keepC hS c3;have y3:=keepC hS x0;have y4:=keepC hS z2
   go_simp
  simp only [Act.put,lA,lB,lC,lD,lE,lF]
  refine RG.RunsIf.strong (v:=.int .i64 gw) (by rfl) (by kernel_rfl) (by rfl) (fun Z hT hS => ?_) ?_
  ·have y1:=keepC hS z1;have y2:=keepC hS c3;have y3:=keepC hS x0;have y4:=keepC hS z2
   go_simp
  simp only [Act.put,lA,lB,lC,lD,lE,lF]
  iterate 2
   refine RG.rW ?_ (fun Z hT => ?_) ?_
   rotate_left
   ·go_simp
    rfl
   simp only [Act.put,lA,lB,lC,lD,lE,lF]
  exact RG.RunsIf.nil
 have HMq:=ζ (HM1.out.below HBz6.out)
 have HIq:=ζ (blk_keep HI1.out HBz6.out)
 obtain ⟨fz_,_,cz_,_⟩:=HMq.out.last1 HE.out
 rw [HEL.out] at cz_
 have cz:=cz_
 have fz:=fz_ (el * 5 + 3)
 clear fz_ cz_
 refine RG.wpL_late (i:=14) (by kernel_rfl) (by rfl) (by rfl) (by kernel_rfl) (fun KX hK => ?_)
 have HK:=ζ hK
 clear hK
 go_simp
 refine HK.out _ _ trivial ?_
 clear HK KX cz fz
 refine RG.wpL_done (by kernel_rfl) ?_ _
 refine NoPanic.normal ?_
 have HM2:=ζ (HMq.out.lastV HE.out gw)
 have HI2 : Hid ((Yz6.setCell ⟨eb,t.evs.length * 5 + 3,none⟩ (.int .i64 gw)).heap[gi]? = some (.cells #[.int .i64 10,.int .i64 (c : Int),.int .i64 a1,.int .i64 a2] 68 (0,0))):=by
  obtain ⟨cs,hcs⟩:=HEB.out _ _ HMq.out (by simp)
  exact blk_setN HIq.out hcs (by decide)
 rw [HEL.out] at HM2 HI2
 refine HKq.out _ _ ?_
 clear HKq HMq HIq x0 c3 z0 z1 z2 z3 ew
 generalize World.setCell _ _ _ = X2 at *
 obtain ⟨z0,z1,z2,z3⟩:=cellsY4 HI2.out
 obtain ⟨_,_,xv,_⟩:=HM2.out.last1 HE.out
 rw [HEL.out] at xv
 have HCl : Hid (∀ W,Below X2.heap.size X2 W → Calls Try.prog 69 #[.pointer (some ⟨g,0,none⟩),.int .i64 (c : Int),.int .i64 gw] W (GroQ o g s pa pc { t with evs:=t.evs ++ [⟨(k : Int),10,(c : Int),gw,false⟩] } m c gw)):=fun W hW => pgrow c gw W (HM2.out.below hW) HHC.out
 refine wp_pan (fun ch w => POST (.panicked ch) w) (fun ch a w hd hr => HP7.out ch a w ⟨hd,hr⟩) ?_
 refine RG.wp_region_L (fun Z => Below X2.heap.size X2 Z) (fun Z => True) [7] (by kernel_rfl) ?_
 refine RG.wpL_any fun Yz7 hY => ?_
 have HBz7 : Hid (Below X2.heap.size X2 Yz7):=by rw [hY];exact below_drewN (Below.refl _ _) 1
 clear hY
 refine RG.wpL_takeS (fuel:=1) (a':=?Az7) [0,1,2,3,4,5,6] (by kernel_rfl) (by kernel_rfl) pan_put trivial (HBz7.out) ?rz7 ?_
 case rz7 =>
  iterate 2
   refine RG.rS ?_ (fun Z hT hS => ?_) ?_
   rotate_left
   ·go_simp
    rfl
   simp only [Act.put,lA,lB,lC,lD,lE,lF]
  refine RG.rS (.int .i64 (c : Int)) (fun Z hT hS => ?_) ?_
  ·have y1:=keepC hS z1;have y3:=keepC hS xv
   go_simp
  simp only [Act.put,lA,lB,lC,lD,lE,lF]
  iterate 3
   refine RG.rS ?_ (fun Z hT hS => ?_) ?_
   rotate_left
   ·go_simp
    rfl
   simp only [Act.put,lA,lB,lC,lD,lE,lF]
  refine RG.rS (.int .i64 gw) (fun Z hT hS => ?_) ?_
  ·have y1:=keepC hS z1;have y3:=keepC hS xv
   go_simp
  simp only [Act.put,lA,lB,lC,lD,lE,lF]
  exact RG.RunsS.nil
 refine RG.wpL_late (i:=7) (by kernel_rfl) (by rfl) (by rfl) (by kernel_rfl) (fun KX hK => ?_)
 have HK:=ζ hK
 clear hK
 go_simp
 refine (HCl.out _ HBz7.out).mono ?_
 rintro e_z7 w_z7 (⟨hl,rfl,hM⟩ | ⟨hl,rfl,hM⟩)
 ·refine ⟨rfl,?_⟩
  rw [HPo.out];exact DoQ.bad_ (HF10e.out hl) ⟨rfl,rfl,rfl,rfl,rfl⟩ rfl hM
 ·have HM3:=ζ hM
  have HF_:=ζ (HF10.out (by omega))
  clear hM hl;refine HK.out _ _ trivial ?_
  clear HK KX;try simp only [Act.put,lA,lB,lC,lD,lE,lF]
  refine RG.wpL_done (by kernel_rfl) ?_ _
  refine HKz.out _ _ ?_;go_wp2;refine HZ7.out _ _ ?_;refine HKT.out _ _ ?_;go_wp2;rw [HPo.out];exact DoQ.ok_ HF_.out ⟨rfl,rfl,rfl,rfl,rfl⟩ rfl HM3.out
theorem psh6 {o : World} {g : Nat} {s : Syst} {pa : Option Addr} {pc : Nat} {t : St} {m : PV} (k c r p : Nat) (a2 : Int) (eb ecap : Nat) (w : World) (h : PM o w g s pa pc { t with evs:=t.evs ++ [⟨(k : Int),6,0,0,false⟩] } m) (ho : Mc.Ok s) (hg : Mc.Good s t) (hk : k < t.rns.length) (hin : Mc.ins s t k = ⟨6,(c : Int),(r : Int),a2⟩) (hpo : (Mc.rn t k).pos = (p : Int)) (hat : aT s (Mc.rn t k) = (p : Int)) (hp1 : p ≤ 256) (hc : c < t.held.length) (hr : r < 8) (hq : (t.held.getD c []).length ≤ 1024) (he : m.ev = .slice (some ⟨eb,0,none⟩) (t.evs.length + 1) ecap) :
  Calls Try.prog 56 #[.pointer (some ⟨g,0,none⟩),.pointer (some ⟨m.ps.getD k 0,0,none⟩),.agg #[.int .i64 6,.int .i64 (c : Int),.int .i64 (r : Int),.int .i64 a2],.pointer (some ⟨eb,t.evs.length * 5,none⟩)] w (DoQ o g s pa pc t m k):=by
 obtain ⟨POST,hP⟩ : ∃ P,P = DoQ o g s pa pc t m k:=⟨_,rfl⟩
 have HPo:=ζ hP
 rw [← hP]
 clear hP
 have h8:=(hg.gr k hk).rl
 have hA0 : Below w.heap.size w (w.alloc (.cells #[.int .i64 6,.int .i64 (c : Int),.int .i64 (r : Int),.int .i64 a2] 68)):=(Below.refl _ _).alloc (Nat.le_refl _) _
 have NI0 : (w.alloc (.cells #[.int .i64 6,.int .i64 (c : Int),.int .i64 (r : Int),.int .i64 a2] 68)).heap[w.heap.size]? = some (.cells #[.int .i64 6,.int .i64 (c : Int),.int .i64 (r : Int),.int .i64 a2] 68 (0,0)):=heap_alloc_new w _
 have HM:=ζ (h.below hA0)
 have HI:=ζ NI0
 have HE:=ζ he
 have H8:=ζ h8
 have HKk:=ζ hk
 have HIn:=ζ hin
 have HPp:=ζ hpo
 have HG:=ζ hg
 have HOk:=ζ ho
 have x1 : (w.alloc (.cells #[.int .i64 6,.int .i64 (c : Int),.int .i64 (r : Int),.int .i64 a2] 68)).cell? ⟨m.ps.getD k 0,1,none⟩ = some (.int .i64 (p : Int)):=by rw [← hat];exact (HM.out.at1 k hk).1
 have HEB : Hid (∀ (W : World) (u : St),PM o W g s pa pc u m → u.evs.length = t.evs.length + 1 → ∃ cs,W.heap[eb]? = some (.cells cs 39 (0,0))):=fun W u hW hl => by
  obtain ⟨_,cur,hh⟩:=row_is (cap:=ecap) hW.evs (by rw [he,hl]) (by omega)
  exact ⟨cur,hh⟩
 have HRg : Hid (∀ (u : St) (W : World) (r : Nat),PM o W g s pa pc u m → u.rns.length = t.rns.length → r < 8 → W.cell? ⟨m.ps.getD k 0,2 + r,none⟩ = some (.int .i64 (reg u k (r : Int)))):=fun u W r hW hl hr => hW.reg1 k (by rw [hl];exact hk) r hr
 have HRf : Hid (∀ (u : St) (W : World),PM o W g s pa pc u m → u.rns.length = t.rns.length → ∀ j,W.frozen? ⟨m.ps.getD k 0,j,none⟩ = false):=fun u W hW hl j => hW.rfz k (by rw [hl];exact hk) j
 have HRB : Hid (∀ (u : St) (W : World),PM o W g s pa pc u m → u.rns.length = t.rns.length → ∃ cs,W.heap[m.ps.getD k 0]? = some (.cells cs 75 (0,0))):=fun u W hW hl => ⟨_,hW.rnB k (by rw [hl];exact hk)⟩
 have ep : IntKind.i64.wrap ((p : Int) + 1) = (p : Int) + 1:=by rw [IntKind.wrap_i64];omega
 have HF6e : Hid (t.held.getD c [] = [] → _):=fun hl => by
  have hF_:=F6e (s:=s) (t:=t) (k:=k) (by rw [hin]) (by rw [hin,Int.toNat_natCast];exact hl)
  simp only [hin,hpo,Int.toNat_natCast] at hF_
  exact hF_
 have HF6 : Hid (¬ t.held.getD c [] = [] → _):=fun hl => by
  have hF_:=F6 (s:=s) (t:=t) (k:=k) (by rw [hin]) (by rw [hin,Int.toNat_natCast];exact hl)
  simp only [hin,hpo,Int.toNat_natCast] at hF_
  exact hF_
 have HQl : Hid ((t.held.getD c []).length ≤ 1048576):=by show _ ≤ _;omega
 have r1 : (r : Int) < 8:=by omega
 have r0 : (0 : Int) ≤ (r : Int):=by omega
 clear hq
 have HSr : Hid (∀ (W : World) (u : St) (m2 : PV) (x : Int),PM o W g s pa pc u m2 → u.rns = t.rns → m2.ps = m.ps → PM o (W.setCell ⟨m.ps.getD k 0,2 + r,none⟩ (.int .i64 x)) g s pa pc { u with rns:=setR t k (r : Int) x } m2):=fun W u m2 x hW hu hp => by
  have h1:=hW.setReg k (by rw [hu];exact hk) r hr (by show (u.rns.getD k Mc.r0).regs.length = 8;rw [hu];exact h8) x
  rw [hp] at h1;have h2 : Mc.setR u k (r : Int) x = Mc.setR t k (r : Int) x:=by unfold Mc.setR Mc.rn;rw [hu]
  rw [h2] at h1;exact h1
 have HRx : Hid (∀ (W : World) (u : St) (m2 : PV) (x : Int),PM o W g s pa pc u m2 → u.rns = Mc.setR t k (r : Int) x → m2.ps = m.ps → W.cell? ⟨m.ps.getD k 0,2 + r,none⟩ = some (.int .i64 x)):=fun W u m2 x hW hu hp => by
  have h1:=hW.reg1 k (by rw [hu,setR_len];exact hk) r hr
  rw [hp] at h1;rw [h1];show some (Value.int .i64 ((u.rns.getD k Mc.r0).regs.getD ((r : Int).toNat) 0)) = _
  rw [hu];unfold Mc.setR
  rw [rn_set t k k _ hk,if_pos rfl];show some (Value.int .i64 (((Mc.rn t k).regs.set ((r : Int).toNat) x).getD ((r : Int).toNat) 0)) = _
  rw [Mc.getD_set_eq _ _ _ (by rw [h8];omega)]
 have HPe : Hid (∀ (W : World) (u : St) (m2 : PV),PM o W g s pa pc u m2 → u.rns.length = t.rns.length → m2.ps = m.ps → (∀ j,W.frozen? ⟨m.ps.getD k 0,j,none⟩ = false) ∧ (∃ z,W.cell? ⟨m.ps.getD k 0,2 + r,none⟩ = some z) ∧ ∃ cs,W.heap[m.ps.getD k 0]? = some (.cells cs 75 (0,0))):=fun W u m2 hW hl hp => by
  have h0 : k < u.rns.length:=by rw [hl];exact hk
  rw [← hp];exact ⟨hW.rfz k h0,⟨_,hW.reg1 k h0 r hr⟩,_,hW.rnB k h0⟩
 have HEc : Hid (∀ (W : World) (u : St) (m2 : PV),PM o W g s pa pc u m2 → u.evs.length = t.evs.length + 1 → m2.ev = m.ev → ∃ cs,W.heap[eb]? = some (.cells cs 39 (0,0))):=fun W u m2 hW hl hp => by
  obtain ⟨_,cur,hh⟩:=row_is (cap:=ecap) hW.evs (by rw [hp,he,hl]) (by omega)
  exact ⟨cur,hh⟩
 obtain ⟨pk,hpk⟩ : ∃ pk,m.ps.getD k 0 = pk:=⟨_,rfl⟩
 have HPK:=ζ hpk
 rw [hpk] at HRg HRf HRB HSr HRx HPe x1 ⊢
 obtain ⟨el,hel⟩ : ∃ el,t.evs.length = el:=⟨_,rfl⟩
 have HEL:=ζ hel
 rw [hel] at ⊢
 obtain ⟨fz_,cz_,_,_⟩:=HM.out.last1 he
 rw [hel] at cz_
 have fz:=fz_ (el * 5 + 2)
 have HM1 : Hid (PM o ((w.alloc (.cells #[.int .i64 6,.int .i64 (c : Int),.int .i64 (r : Int),.int .i64 a2] 68)).setCell ⟨eb,el * 5 + 2,none⟩ (.int .i64 (c : Int))) g s pa pc { t with evs:=t.evs ++ [⟨(k : Int),6,(c : Int),0,false⟩] } m):=by
  have:=HM.out.lastA he (c : Int)
  rw [hel] at this;exact this
 have HI1 : Hid (((w.alloc (.cells #[.int .i64 6,.int .i64 (c : Int),.int .i64 (r : Int),.int .i64 a2] 68)).setCell ⟨eb,el * 5 + 2,none⟩ (.int .i64 (c : Int))).heap[w.heap.size]? = some (.cells #[.int .i64 6,.int .i64 (c : Int),.int .i64 (r : Int),.int .i64 a2] 68 (0,0))):=by
  obtain ⟨cs,hcs⟩:=HEB.out _ _ HM.out (by simp)
  exact blk_setN HI.out hcs (by decide)
 clear h hA0 NI0 he h8 hin hpo hat hg ho hk hpk hel fz_ hp1
 go_enter Try.func56,Try.ntmps56
 refine wp_seq_k fun K0 hK0 => ?_
 have HK0:=ζ hK0
 clear hK0
 go_wp2
 refine HK0.out _ _ ?_
 clear HK0 K0
 generalize w.alloc _ = X at *
 generalize w.heap.size = gi at *
 obtain ⟨z0,z1,z2,z3⟩:=cellsY4 HI.out
 refine wp_seq_k fun K0 hK0 => ?_
 have HK0:=ζ hK0
 clear hK0
 go_wp2
 refine HK0.out _ _ ?_
 clear HK0 K0 x1 ep
 refine wp_seq_k fun K0 hK0 => ?_
 have HK0:=ζ hK0
 clear hK0
 go_wp2
 refine HK0.out _ _ ?_
 clear HK0 K0 HM HI z0 z1 z2 z3 fz cz_
 generalize World.setCell _ _ _ = X1 at *
 obtain ⟨z0,z1,z2,z3⟩:=cellsY4 HI1.out
 refine wp_seq_q fun KT QT hKT hNT hOT => ?_
 have HKT:=ζ hKT
 have HNT:=ζ hNT
 have HOT:=ζ hOT
 clear hKT hNT hOT
 refine wp_seq_k fun K0 hK0 => ?_
 have HK0:=ζ hK0
 clear hK0
 go_wp2
 refine HK0.out _ _ ?_
 clear HK0 K0
 refine wp_block_q fun Q0 hN0 hE0 hO0 => ?_
 have HN0:=ζ hN0
 have HE0:=ζ hE0
 have HO0:=ζ hO0
 clear hN0 hE0 hO0
 refine wp_seq_block_q fun Kb8 Q8 hKb8 hN8 hE8 hO8 => ?_
 have HKb8:=ζ hKb8
 have HN8:=ζ hN8
 have HE8:=ζ hE8
 have HO8:=ζ hO8
 clear hKb8 hN8 hE8 hO8
 refine wp_seq_block_q fun Kb7 Q7 hKb7 hN7 hE7 hO7 => ?_
 have HKb7:=ζ hKb7
 have HN7:=ζ hN7
 have HE7:=ζ hE7
 have HO7:=ζ hO7
 clear hKb7 hN7 hE7 hO7
 refine wp_seq_block_q fun Kb6 Q6 hKb6 hN6 hE6 hO6 => ?_
 have HKb6:=ζ hKb6
 have HN6:=ζ hN6
 have HE6:=ζ hE6
 have HO6:=ζ hO6
 clear hKb6 hN6 hE6 hO6
 refine wp_seq_block_q fun Kb5 Q5 hKb5 hN5 hE5 hO5 => ?_
 have HKb5:=ζ hKb5
 have HN5:=ζ hN5
 have HE5:=ζ hE5
 have HO5:=ζ hO5
 clear hKb5 hN5 hE5 hO5
 refine wp_seq_block_q fun Kb4 Q4 hKb4 hN4 hE4 hO4 => ?_
 have HKb4:=ζ hKb4
 have HN4:=ζ hN4
 have HE4:=ζ hE4
 have HO4:=ζ hO4
 clear hKb4 hN4 hE4 hO4
 refine wp_seq_block_q fun Kb3 Q3 hKb3 hN3 hE3 hO3 => ?_
 have HKb3:=ζ hKb3
 have HN3:=ζ hN3
 have HE3:=ζ hE3
 have HO3:=ζ hO3
 clear hKb3 hN3 hE3 hO3
 refine wp_seq_block_q fun Kb2 Q2 hKb2 hN2 hE2 hO2 => ?_
 have HKb2:=ζ hKb2
 have HN2:=ζ hN2
 have HE2:=ζ hE2
 have HO2:=ζ hO2
 clear hKb2 hN2 hE2 hO2
 refine wp_seq_block_q fun Kb1 Q1 hKb1 hN1 hE1 hO1 => ?_
 have HKb1:=ζ hKb1
 have HN1:=ζ hN1
 have HE1:=ζ hE1
 have HO1:=ζ hO1
 clear hKb1 hN1 hE1 hO1
 have HX8 : Hid (∀ a w,Kb8 a w → Q1 (.exit 8) a w):=fun a w hk => xZ HO1 8 (xZ HO2 8 (xZ HO3 8 (xZ HO4 8 (xZ HO5 8 (xZ HO6 8 (xZ HO7 8 (HE8.out a w hk)))))))
 have HR8 : Hid (∀ a w,_ → Q0 .ret a w):=fun a w hq => xR HO0 (xR HOT hq)
 have HP8 : Hid (∀ c a w,_ → Q0 (.panic c) a w):=fun c a w hq => xP HO0 (xP HOT hq)
 have HZ8 : Hid (∀ a w,KT a w → Q0 (.exit 0) a w):=fun a w hk => HE0.out a w (HNT.out a w hk)
 have HX7 : Hid (∀ a w,Kb7 a w → Q1 (.exit 7) a w):=fun a w hk => xZ HO1 7 (xZ HO2 7 (xZ HO3 7 (xZ HO4 7 (xZ HO5 7 (xZ HO6 7 (HE7.out a w hk))))))
 have HR7 : Hid (∀ a w,_ → Q8 .ret a w):=fun a w hq => xR HO8 (xR HO0 (xR HOT hq))
 have HP7 : Hid (∀ c a w,_ → Q8 (.panic c) a w):=fun c a w hq => xP HO8 (xP HO0 (xP HOT hq))
 have HZ7 : Hid (∀ a w,KT a w → Q8 (.exit 0) a w):=fun a w hk => xZ HO8 0 (HE0.out a w (HNT.out a w hk))
 have HX6 : Hid (∀ a w,Kb6 a w → Q1 (.exit 6) a w):=fun a w hk => xZ HO1 6 (xZ HO2 6 (xZ HO3 6 (xZ HO4 6 (xZ HO5 6 (HE6.out a w hk)))))
 have HR6 : Hid (∀ a w,_ → Q7 .ret a w):=fun a w hq => xR HO7 (xR HO8 (xR HO0 (xR HOT hq)))
 have HP6 : Hid (∀ c a w,_ → Q7 (.panic c) a w):=fun c a w hq => xP HO7 (xP HO8 (xP HO0 (xP HOT hq)))
 have HZ6 : Hid (∀ a w,KT a w → Q7 (.exit 0) a w):=fun a w hk => xZ HO7 0 (xZ HO8 0 (HE0.out a w (HNT.out a w hk)))
 have HX5 : Hid (∀ a w,Kb5 a w → Q1 (.exit 5) a w):=fun a w hk => xZ HO1 5 (xZ HO2 5 (xZ HO3 5 (xZ HO4 5 (HE5.out a w hk))))
 have HR5 : Hid (∀ a w,_ → Q6 .ret a w):=fun a w hq => xR HO6 (xR HO7 (xR HO8 (xR HO0 (xR HOT hq))))
 have HP5 : Hid (∀ c a w,_ → Q6 (.panic c) a w):=fun c a w hq => xP HO6 (xP HO7 (xP HO8 (xP HO0 (xP HOT hq))))
 have HZ5 : Hid (∀ a w,KT a w → Q6 (.exit 0) a w):=fun a w hk => xZ HO6 0 (xZ HO7 0 (xZ HO8 0 (HE0.out a w (HNT.out a w hk))))
 have HX4 : Hid (∀ a w,Kb4 a w → Q1 (.exit 4) a w):=fun a w hk => xZ HO1 4 (xZ HO2 4 (xZ HO3 4 (HE4.out a w hk)))
 have HR4 : Hid (∀ a w,_ → Q5 .ret a w):=fun a w hq => xR HO5 (xR HO6 (xR HO7 (xR HO8 (xR HO0 (xR HOT hq)))))
 have HP4 : Hid (∀ c a w,_ → Q5 (.panic c) a w):=fun c a w hq => xP HO5 (xP HO6 (xP HO7 (xP HO8 (xP HO0 (xP HOT hq)))))
 have HZ4 : Hid (∀ a w,KT a w → Q5 (.exit 0) a w):=fun a w hk => xZ HO5 0 (xZ HO6 0 (xZ HO7 0 (xZ HO8 0 (HE0.out a w (HNT.out a w hk)))))
 have HX3 : Hid (∀ a w,Kb3 a w → Q1 (.exit 3) a w):=fun a w hk => xZ HO1 3 (xZ HO2 3 (HE3.out a w hk))
 have HR3 : Hid (∀ a w,_ → Q4 .ret a w):=fun a w hq => xR HO4 (xR HO5 (xR HO6 (xR HO7 (xR HO8 (xR HO0 (xR HOT hq))))))
 have HP3 : Hid (∀ c a w,_ → Q4 (.panic c) a w):=fun c a w hq => xP HO4 (xP HO5 (xP HO6 (xP HO7 (xP HO8 (xP HO0 (xP HOT hq))))))
 have HZ3 : Hid (∀ a w,KT a w → Q4 (.exit 0) a w):=fun a w hk => xZ HO4 0 (xZ HO5 0 (xZ HO6 0 (xZ HO7 0 (xZ HO8 0 (HE0.out a w (HNT.out a w hk))))))
 have HX2 : Hid (∀ a w,Kb2 a w → Q1 (.exit 2) a w):=fun a w hk => xZ HO1 2 (HE2.out a w hk)
 have HR2 : Hid (∀ a w,_ → Q3 .ret a w):=fun a w hq => xR HO3 (xR HO4 (xR HO5 (xR HO6 (xR HO7 (xR HO8 (xR HO0 (xR HOT hq)))))))
 have HP2 : Hid (∀ c a w,_ → Q3 (.panic c) a w):=fun c a w hq => xP HO3 (xP HO4 (xP HO5 (xP HO6 (xP HO7 (xP HO8 (xP HO0 (xP HOT hq)))))))
 have HZ2 : Hid (∀ a w,KT a w → Q3 (.exit 0) a w):=fun a w hk => xZ HO3 0 (xZ HO4 0 (xZ HO5 0 (xZ HO6 0 (xZ HO7 0 (xZ HO8 0 (HE0.out a w (HNT.out a w hk)))))))
 have HX1 : Hid (∀ a w,Kb1 a w → Q1 (.exit 1) a w):=fun a w hk => HE1.out a w hk
 have HR1 : Hid (∀ a w,_ → Q2 .ret a w):=fun a w hq => xR HO2 (xR HO3 (xR HO4 (xR HO5 (xR HO6 (xR HO7 (xR HO8 (xR HO0 (xR HOT hq))))))))
 have HP1 : Hid (∀ c a w,_ → Q2 (.panic c) a w):=fun c a w hq => xP HO2 (xP HO3 (xP HO4 (xP HO5 (xP HO6 (xP HO7 (xP HO8 (xP HO0 (xP HOT hq))))))))
 have HZ1 : Hid (∀ a w,KT a w → Q2 (.exit 0) a w):=fun a w hk => xZ HO2 0 (xZ HO3 0 (xZ HO4 0 (xZ HO5 0 (xZ HO6 0 (xZ HO7 0 (xZ HO8 0 (HE0.out a w (HNT.out a w hk))))))))
 have HZx : Hid (∀ a w,KT a w → Q1 (.exit 0) a w):=fun a w hk => xZ HO1 0 (xZ HO2 0 (xZ HO3 0 (xZ HO4 0 (xZ HO5 0 (xZ HO6 0 (xZ HO7 0 (xZ HO8 0 (HE0.out a w (HNT.out a w hk)))))))))
 clear HE0 HO0 HE8 HO8 HE7 HO7 HE6 HO6 HE5 HO5 HE4 HO4 HE3 HO3 HE2 HO2 HE1 HO1 HN0 HNT
 refine wp_seq_k fun Kx hKx => ?_
 have HKx:=ζ hKx
 clear hKx
 refine wp_seq_k fun Kr hKr => ?_
 have HKr:=ζ hKr
 clear hKr
 go_wp2
 refine HKr.out _ _ ?_
 clear HKr Kr
 refine wp_seq_k fun Kr hKr => ?_
 have HKr:=ζ hKr
 clear hKr
 go_wp2
 refine HX2.out _ _ ?_
 refine HKb2.out _ _ ?_
 obtain ⟨hb,hcp,e2,_,_,_,_,_⟩:=HM1.out.ch1 c hc
 change m.hv = .slice (some ⟨hb,0,none⟩) t.held.length hcp at e2
 have c2:=HM1.out.c2
 rw [e2] at c2
 have HE2:=ζ e2
 clear e2
 have q1 : (c : Int) < (t.held.length : Int):=by omega
 have q0 : (0 : Int) ≤ (c : Int):=by omega
 have HHC:=ζ hc
 clear hc
 obtain ⟨hn,hhn⟩ : ∃ hn,t.held.length = hn:=⟨_,rfl⟩
 rw [hhn] at q1 c2
 clear hhn
 have HIX : Hid (∀ W,Below o.heap.size o W → W.heap[gi]? = X1.heap[gi]? → True):=fun _ _ _ => trivial
 clear HIX
 have HCl : Hid (∀ W,Below X1.heap.size X1 W → W.heap[gi]? = some (.cells #[.int .i64 6,.int .i64 (c : Int),.int .i64 (r : Int),.int .i64 a2] 68 (0,0)) → Calls Try.prog 66 #[.pointer (some ⟨hb,c * 3,none⟩)] W fun e w' => TakQ o g s pa pc { t with evs:=t.evs ++ [⟨(k : Int),6,(c : Int),0,false⟩] } m c e w' ∧ w'.heap[gi]? = some (.cells #[.int .i64 6,.int .i64 (c : Int),.int .i64 (r : Int),.int .i64 a2] 68 (0,0))):=fun W hW hI => ptakeI c hb hcp W gi 68 _ (by decide) (by decide) hI (HM1.out.below hW) HHC.out HE2.out HQl.out
 refine wp_seq_k fun Kt hKt => ?_
 have HKt:=ζ hKt
 clear hKt
 refine wp_region_noPanic ?_
 refine RG.wp_region_L (fun Z => Below X1.heap.size X1 Z) (fun Z => True) [7] (by kernel_rfl) ?_
 refine RG.wpL_any fun Yz8 hY => ?_
 have HBz8 : Hid (Below X1.heap.size X1 Yz8):=by rw [hY];exact below_drewN (Below.refl _ _) 1
 clear hY
 refine RG.wpL_takeS (fuel:=6) (a':=?Az8) [0,1,2,3,4,5,6] (by kernel_rfl) (by kernel_rfl) (fun _ _ _ _ _ h => h) trivial (HBz8.out) ?rz8 ?_
 case rz8 =>
  iterate 3
   refine RG.rS ?_ (fun Z hT hS => ?_) ?_
   rotate_left
   ·go_simp
    rfl
   simp only [Act.put,lA,lB,lC,lD,lE,lF]
  refine RG.rS (.slice (some ⟨hb,0,none⟩) hn hcp) (fun Z hT hS => ?_) ?_
  ·have y1:=keepC hS z1;have y2:=keepC hS c2
   go_simp
  simp only [Act.put,lA,lB,lC,lD,lE,lF]
  refine RG.rS ?_ (fun Z hT hS => ?_) ?_
  rotate_left
  ·go_simp
   rfl
  simp only [Act.put,lA,lB,lC,lD,lE,lF]
  refine RG.rS (.int .i64 (c : Int)) (fun Z hT hS => ?_) ?_
  ·have y1:=keepC hS z1;have y2:=keepC hS c2
   go_simp
  simp only [Act.put,lA,lB,lC,lD,lE,lF]
  refine RG.rS ?_ (fun Z hT hS => ?_) ?_
  rotate_left
  ·go_simp
   rfl
  simp only [Act.put,lA,lB,lC,lD,lE,lF]
  exact RG.RunsS.nil
 refine RG.wpL_late (i:=7) (by kernel_rfl) (by rfl) (by rfl) (by kernel_rfl) (fun KX hK => ?_)
 have HK:=ζ hK
 clear hK
 go_simp
 refine (HCl.out _ HBz8.out (blk_keep HI1.out HBz8.out)).mono ?_
 rintro e_z8 w_z8 ⟨⟨hl,rfl,hM⟩ | ⟨hl,rfl,q_,hM⟩,hI2⟩
 ·have HM2:=ζ hM
  have HF:=ζ (HF6e.out hl)
  have HI2:=ζ hI2
  clear hM hl hI2;refine HK.out _ _ trivial ?_
  clear HK KX;try simp only [Act.put,lA,lB,lC,lD,lE,lF]
  refine RG.wpL_take (fuel:=0) (a':=?Az9) [8,9,10,11,12] (by kernel_rfl) (by kernel_rfl) (fun _ _ _ _ _ h => h) trivial (fun h => by cases (show false = true from h)) ?rz9 ?_
  case rz9 =>
   iterate 5
    refine RG.rW ?_ (fun Z hT => ?_) ?_
    rotate_left
    ·go_simp
     rfl
    simp only [Act.put,lA,lB,lC,lD,lE,lF]
   exact RG.RunsIf.nil
  refine RG.wpL_done (by kernel_rfl) ?_ _
  refine NoPanic.normal ?_
  refine HKt.out _ _ ?_;clear HKt;obtain ⟨fz_,_,_,cz_⟩:=HM2.out.last1 HE.out
  rw [HEL.out] at cz_;have fz:=fz_ (el * 5 + 4)
  obtain ⟨z0,z1,z2,z3⟩:=cellsY4 HI2.out
  have HM3 : Hid (PM o (w_z8.setCell ⟨eb,el * 5 + 4,none⟩ (.bool true)) g s pa pc { t with evs:=t.evs ++ [⟨(k : Int),6,(c : Int),0,true⟩] } m):=by
   have:=HM2.out.lastS HE.out true
   rw [HEL.out] at this;exact this
  have HI3 : Hid ((w_z8.setCell ⟨eb,el * 5 + 4,none⟩ (.bool true)).heap[gi]? = some (.cells #[.int .i64 6,.int .i64 (c : Int),.int .i64 (r : Int),.int .i64 a2] 68 (0,0))):=by
   obtain ⟨cs,hcs⟩:=HEc.out _ _ _ HM2.out (by simp) rfl
   exact blk_setN HI2.out hcs (by decide)
  clear fz_ HM2 HI2;go_wp2;refine HN3.out _ _ ?_;refine HKb3.out _ _ ?_;clear cz_ fz z0 z1 z2 z3;generalize World.setCell _ _ _ = X3 at *;obtain ⟨z0,z1,z2,z3⟩:=cellsY4 HI3.out
  have xq:=HRg.out _ X3 r HM3.out rfl hr
  change X3.cell? _ = some (.int .i64 (reg t k (r : Int))) at xq
  obtain ⟨vb,hvb⟩ : ∃ vb,reg t k (r : Int) = vb:=⟨_,rfl⟩
  rw [hvb] at xq HF;clear hvb;refine wp_seq_k fun Kq hKq => ?_
  have HKq:=ζ hKq
  clear hKq;refine wp_region_noPanic ?_
  refine RG.wp_region_L (fun Z => Below X3.heap.size X3 Z) (fun Z => True) [10] (by kernel_rfl) ?_
  refine RG.wpL_any fun Yz10 hY => ?_
  have HBz10 : Hid (Below X3.heap.size X3 Yz10):=by rw [hY];exact below_drewN (Below.refl _ _) 1
  clear hY;refine RG.wpL_take (fuel:=1) (a':=?Az10) [0,1,2,3,4,5,6,7,8,9] (by kernel_rfl) (by kernel_rfl) (fun _ _ _ _ _ h => h) trivial (fun _ => HBz10.out) ?rz10 ?_
  case rz10 =>
   iterate 3
    refine RG.rW ?_ (fun Z hT => ?_) ?_
    rotate_left
    ·go_simp
     rfl
    simp only [Act.put,lA,lB,lC,lD,lE,lF]
   refine RG.RunsIf.strong (v:=.int .i64 (r : Int)) (by rfl) (by kernel_rfl) (by rfl) (fun Z hT hS => ?_) ?_
   ·have y1:=keepC hS z2;have y2:=keepC hS xq
    go_simp
   simp only [Act.put,lA,lB,lC,lD,lE,lF]
   iterate 3
    refine RG.rW ?_ (fun Z hT => ?_) ?_
    rotate_left
    ·go_simp
     rfl
    simp only [Act.put,lA,lB,lC,lD,lE,lF]
   refine RG.RunsIf.strong (v:=.int .i64 vb) (by rfl) (by kernel_rfl) (by rfl) (fun Z hT hS => ?_) ?_
   ·have y1:=keepC hS z2;have y2:=keepC hS xq
    go_simp
   simp only [Act.put,lA,lB,lC,lD,lE,lF]
   iterate 2
    refine RG.rW ?_ (fun Z hT => ?_) ?_
    rotate_left
    ·go_simp
     rfl
    simp only [Act.put,lA,lB,lC,lD,lE,lF]
   exact RG.RunsIf.nil
  have HMq:=ζ (HM3.out.below HBz10.out)
  obtain ⟨fz_,_,cz_,_⟩:=PM.last1 (t:=t) HMq.out HE.out
  change World.cell? _ ⟨eb,t.evs.length * 5 + 3,none⟩ = _ at cz_
  rw [HEL.out] at cz_;have cz:=cz_
  have fz:=fz_ (el * 5 + 3)
  clear fz_ cz_;refine RG.wpL_late (i:=10) (by kernel_rfl) (by rfl) (by rfl) (by kernel_rfl) (fun KX hK => ?_)
  have HK:=ζ hK
  clear hK;go_simp;refine HK.out _ _ trivial ?_
  clear HK KX cz fz;refine RG.wpL_done (by kernel_rfl) ?_ _
  refine NoPanic.normal ?_
  have HM5:=ζ (PM.lastV (t:=t) HMq.out HE.out vb)
  have HM6 : Hid (PM o (Yz10.setCell ⟨eb,el * 5 + 3,none⟩ (.int .i64 vb)) g s pa pc { t with evs:=t.evs ++ [⟨(k : Int),6,(c : Int),vb,true⟩] } m):=by
   have:=HM5.out
   change PM o (Yz10.setCell ⟨eb,t.evs.length * 5 + 3,none⟩ _) g s pa pc _ _ at this
   rw [HEL.out] at this;exact this
  clear HM5 HMq;refine HKq.out _ _ ?_;go_wp2;refine HZ3.out _ _ ?_;refine HKT.out _ _ ?_;go_wp2;rw [HPo.out];exact DoQ.ok_ (m':=m) HF.out ⟨rfl,rfl,rfl,rfl,rfl⟩ rfl HM6.out
 ·have HF:=ζ (HF6.out hl)
  have HI2:=ζ hI2
  obtain ⟨v0,hv0⟩ : ∃ v0,(t.held.getD c []).headD 0 = v0:=⟨_,rfl⟩
  obtain ⟨XT,hXT⟩ : ∃ XT,(t.held.getD c []).tail = XT:=⟨_,rfl⟩
  have HM2 : Hid (PM o w_z8 g s pa pc { t with held:=t.held.set c XT,evs:=t.evs ++ [⟨(k : Int),6,(c : Int),0,false⟩] } { m with qs:=m.qs.set c q_ }):=by rw [← hXT];exact hM
  rw [hv0,hXT] at HF;simp only [hv0]
  clear hM hl hI2 hv0 hXT;refine HK.out _ _ trivial ?_
  clear HK KX;try simp only [Act.put,lA,lB,lC,lD,lE,lF]
  refine RG.wpL_take (fuel:=0) (a':=?Az11) [8,9,10,11,12] (by kernel_rfl) (by kernel_rfl) (fun _ _ _ _ _ h => h) trivial (fun h => by cases (show false = true from h)) ?rz11 ?_
  case rz11 =>
   iterate 5
    refine RG.rW ?_ (fun Z hT => ?_) ?_
    rotate_left
    ·go_simp
     rfl
    simp only [Act.put,lA,lB,lC,lD,lE,lF]
   exact RG.RunsIf.nil
  refine RG.wpL_done (by kernel_rfl) ?_ _
  refine NoPanic.normal ?_
  refine HKt.out _ _ ?_;clear HKt;obtain ⟨z0,z1,z2,z3⟩:=cellsY4 HI2.out
  refine wp_seq_k fun Kw hKw => ?_
  have HKw:=ζ hKw
  clear hKw;go_wp2;refine HKw.out _ _ ?_;clear HKw Kw;refine wp_cond_true (by rfl) ?_
  refine wp_region_noPanic ?_
  refine RG.wp_region_L (fun Z => Below w_z8.heap.size w_z8 Z) (fun Z => True) [7] (by kernel_rfl) ?_
  refine RG.wpL_any fun Yz12 hY => ?_
  have HBz12 : Hid (Below w_z8.heap.size w_z8 Yz12):=by rw [hY];exact below_drewN (Below.refl _ _) 1
  clear hY;refine RG.wpL_take (fuel:=1) (a':=?Az12) [0,1,2,3,4,5,6] (by kernel_rfl) (by kernel_rfl) (fun _ _ _ _ _ h => h) trivial (fun _ => HBz12.out) ?rz12 ?_
  case rz12 =>
   iterate 2
    refine RG.rW ?_ (fun Z hT => ?_) ?_
    rotate_left
    ·go_simp
     rfl
    simp only [Act.put,lA,lB,lC,lD,lE,lF]
   refine RG.RunsIf.strong (v:=.int .i64 (r : Int)) (by rfl) (by kernel_rfl) (by rfl) (fun Z hT hS => ?_) ?_
   ·have y1:=keepC hS z2
    go_simp
   simp only [Act.put,lA,lB,lC,lD,lE,lF]
   iterate 4
    refine RG.rW ?_ (fun Z hT => ?_) ?_
    rotate_left
    ·go_simp
     rfl
    simp only [Act.put,lA,lB,lC,lD,lE,lF]
   exact RG.RunsIf.nil
  have HMq:=ζ (HM2.out.below HBz12.out)
  have HIq:=ζ (blk_keep HI2.out HBz12.out)
  obtain ⟨fz_,⟨zz,cz⟩,_⟩:=HPe.out _ _ _ HMq.out rfl rfl
  have fz:=fz_ (2 + r)
  refine RG.wpL_late (i:=7) (by kernel_rfl) (by rfl) (by rfl) (by kernel_rfl) (fun KX hK => ?_)
  have HK:=ζ hK
  clear hK;go_simp;refine HK.out _ _ trivial ?_
  clear HK KX cz fz;refine RG.wpL_done (by kernel_rfl) ?_ _
  refine NoPanic.normal ?_
  have HM3:=ζ (HSr.out _ _ { m with qs:=m.qs.set c q_ } v0 HMq.out rfl rfl)
  have HI3 : Hid ((Yz12.setCell ⟨pk,2 + r,none⟩ (.int .i64 v0)).heap[gi]? = some (.cells #[.int .i64 6,.int .i64 (c : Int),.int .i64 (r : Int),.int .i64 a2] 68 (0,0))):=by
   obtain ⟨_,_,cs,hcs⟩:=HPe.out _ _ _ HMq.out rfl rfl
   exact blk_setN HIq.out hcs (by decide)
  clear HMq HIq HM2 HI2;refine HN3.out _ _ ?_;refine HKb3.out _ _ ?_;clear z0 z1 z2 z3;generalize World.setCell _ _ _ = X3 at *;obtain ⟨z0,z1,z2,z3⟩:=cellsY4 HI3.out
  have xq:=HRx.out X3 _ _ v0 HM3.out rfl rfl
  refine wp_seq_k fun Kq hKq => ?_
  have HKq:=ζ hKq
  clear hKq;refine wp_region_noPanic ?_
  refine RG.wp_region_L (fun Z => Below X3.heap.size X3 Z) (fun Z => True) [10] (by kernel_rfl) ?_
  refine RG.wpL_any fun Yz13 hY => ?_
  have HBz13 : Hid (Below X3.heap.size X3 Yz13):=by rw [hY];exact below_drewN (Below.refl _ _) 1
  clear hY;refine RG.wpL_take (fuel:=1) (a':=?Az13) [0,1,2,3,4,5,6,7,8,9] (by kernel_rfl) (by kernel_rfl) (fun _ _ _ _ _ h => h) trivial (fun _ => HBz13.out) ?rz13 ?_
  case rz13 =>
   iterate 3
    refine RG.rW ?_ (fun Z hT => ?_) ?_
    rotate_left
    ·go_simp
     rfl
    simp only [Act.put,lA,lB,lC,lD,lE,lF]
   refine RG.RunsIf.strong (v:=.int .i64 (r : Int)) (by rfl) (by kernel_rfl) (by rfl) (fun Z hT hS => ?_) ?_
   ·have y1:=keepC hS z2;have y2:=keepC hS xq
    go_simp
   simp only [Act.put,lA,lB,lC,lD,lE,lF]
   iterate 3
    refine RG.rW ?_ (fun Z hT => ?_) ?_
    rotate_left
    ·go_simp
     rfl
    simp only [Act.put,lA,lB,lC,lD,lE,lF]
   refine RG.RunsIf.strong (v:=.int .i64 v0) (by rfl) (by kernel_rfl) (by rfl) (fun Z hT hS => ?_) ?_
   ·have y1:=keepC hS z2;have y2:=keepC hS xq
    go_simp
   simp only [Act.put,lA,lB,lC,lD,lE,lF]
   iterate 2
    refine RG.rW ?_ (fun Z hT => ?_) ?_
    rotate_left
    ·go_simp
     rfl
    simp only [Act.put,lA,lB,lC,lD,lE,lF]
   exact RG.RunsIf.nil
  have HMq:=ζ (HM3.out.below HBz13.out)
  obtain ⟨fz_,_,cz_,_⟩:=PM.last1 (t:={ t with held:=t.held.set c XT,rns:=setR t k (r : Int) v0 }) HMq.out HE.out
  change World.cell? _ ⟨eb,t.evs.length * 5 + 3,none⟩ = _ at cz_
  rw [HEL.out] at cz_;have cz:=cz_
  have fz:=fz_ (el * 5 + 3)
  clear fz_ cz_;refine RG.wpL_late (i:=10) (by kernel_rfl) (by rfl) (by rfl) (by kernel_rfl) (fun KX hK => ?_)
  have HK:=ζ hK
  clear hK;go_simp;refine HK.out _ _ trivial ?_
  clear HK KX cz fz;refine RG.wpL_done (by kernel_rfl) ?_ _
  refine NoPanic.normal ?_
  have HM5:=ζ (PM.lastV (t:={ t with held:=t.held.set c XT,rns:=setR t k (r : Int) v0 }) HMq.out HE.out v0)
  have HM6 : Hid (PM o (Yz13.setCell ⟨eb,el * 5 + 3,none⟩ (.int .i64 v0)) g s pa pc { t with held:=t.held.set c XT,rns:=setR t k (r : Int) v0,evs:=t.evs ++ [⟨(k : Int),6,(c : Int),v0,false⟩] } { m with qs:=m.qs.set c q_ }):=by
   have:=HM5.out
   change PM o (Yz13.setCell ⟨eb,t.evs.length * 5 + 3,none⟩ _) g s pa pc _ _ at this
   rw [HEL.out] at this;exact this
  clear HM5 HMq;refine HKq.out _ _ ?_;go_wp2;refine HZ3.out _ _ ?_;refine HKT.out _ _ ?_;go_wp2;rw [HPo.out];exact DoQ.ok_ (m':={ m with qs:=m.qs.set c q_ }) HF.out ⟨rfl,rfl,rfl,rfl,rfl⟩ rfl HM6.out
theorem psh14 {o : World} {g : Nat} {s : Syst} {pa : Option Addr} {pc : Nat} {t : St} {m : PV} (k c p : Nat) (a1 a2 : Int) (eb ecap : Nat) (w : World) (h : PM o w g s pa pc { t with evs:=t.evs ++ [⟨(k : Int),14,0,0,false⟩] } m) (ho : Mc.Ok s) (hg : Mc.Good s t) (hk : k < t.rns.length) (hin : Mc.ins s t k = ⟨14,(c : Int),a1,a2⟩) (hpo : (Mc.rn t k).pos = (p : Int)) (hat : aT s (Mc.rn t k) = (p : Int)) (hp1 : p ≤ 256) (hc : c < s.progs.length) (he : m.ev = .slice (some ⟨eb,0,none⟩) (t.evs.length + 1) ecap) :
  Calls Try.prog 56 #[.pointer (some ⟨g,0,none⟩),.pointer (some ⟨m.ps.getD k 0,0,none⟩),.agg #[.int .i64 14,.int .i64 (c : Int),.int .i64 a1,.int .i64 a2],.pointer (some ⟨eb,t.evs.length * 5,none⟩)] w (DoQ o g s pa pc t m k):=by
 obtain ⟨POST,hP⟩ : ∃ P,P = DoQ o g s pa pc t m k:=⟨_,rfl⟩
 have HPo:=ζ hP
 rw [← hP]
 clear hP
 have h8:=(hg.gr k hk).rl
 have hA0 : Below w.heap.size w (w.alloc (.cells #[.int .i64 14,.int .i64 (c : Int),.int .i64 a1,.int .i64 a2] 68)):=(Below.refl _ _).alloc (Nat.le_refl _) _
 have NI0 : (w.alloc (.cells #[.int .i64 14,.int .i64 (c : Int),.int .i64 a1,.int .i64 a2] 68)).heap[w.heap.size]? = some (.cells #[.int .i64 14,.int .i64 (c : Int),.int .i64 a1,.int .i64 a2] 68 (0,0)):=heap_alloc_new w _
 have HM:=ζ (h.below hA0)
 have HI:=ζ NI0
 have HE:=ζ he
 have H8:=ζ h8
 have HKk:=ζ hk
 have HIn:=ζ hin
 have HPp:=ζ hpo
 have HG:=ζ hg
 have HOk:=ζ ho
 have x1 : (w.alloc (.cells #[.int .i64 14,.int .i64 (c : Int),.int .i64 a1,.int .i64 a2] 68)).cell? ⟨m.ps.getD k 0,1,none⟩ = some (.int .i64 (p : Int)):=by rw [← hat];exact (HM.out.at1 k hk).1
 have HEB : Hid (∀ (W : World) (u : St),PM o W g s pa pc u m → u.evs.length = t.evs.length + 1 → ∃ cs,W.heap[eb]? = some (.cells cs 39 (0,0))):=fun W u hW hl => by
  obtain ⟨_,cur,hh⟩:=row_is (cap:=ecap) hW.evs (by rw [he,hl]) (by omega)
  exact ⟨cur,hh⟩
 have HRg : Hid (∀ (u : St) (W : World) (r : Nat),PM o W g s pa pc u m → u.rns.length = t.rns.length → r < 8 → W.cell? ⟨m.ps.getD k 0,2 + r,none⟩ = some (.int .i64 (reg u k (r : Int)))):=fun u W r hW hl hr => hW.reg1 k (by rw [hl];exact hk) r hr
 have HRf : Hid (∀ (u : St) (W : World),PM o W g s pa pc u m → u.rns.length = t.rns.length → ∀ j,W.frozen? ⟨m.ps.getD k 0,j,none⟩ = false):=fun u W hW hl j => hW.rfz k (by rw [hl];exact hk) j
 have HRB : Hid (∀ (u : St) (W : World),PM o W g s pa pc u m → u.rns.length = t.rns.length → ∃ cs,W.heap[m.ps.getD k 0]? = some (.cells cs 75 (0,0))):=fun u W hW hl => ⟨_,hW.rnB k (by rw [hl];exact hk)⟩
 have ep : IntKind.i64.wrap ((p : Int) + 1) = (p : Int) + 1:=by rw [IntKind.wrap_i64];omega
 have HF14 : Hid (¬ 512 ≤ t.rns.length → _):=fun hl => by
  have hF_:=F14 (s:=s) (t:=t) (k:=k) (by rw [hin]) hl
  simp only [hin,hpo,Int.toNat_natCast] at hF_
  exact hF_
 have HF14e : Hid (512 ≤ t.rns.length → _):=fun hl => by
  have hF_:=F14e (s:=s) (t:=t) (k:=k) (by rw [hin]) hl
  simp only [hin,hpo,Int.toNat_natCast] at hF_
  exact hF_
 obtain ⟨pk,hpk⟩ : ∃ pk,m.ps.getD k 0 = pk:=⟨_,rfl⟩
 have HPK:=ζ hpk
 rw [hpk] at HRg HRf HRB x1 ⊢
 obtain ⟨el,hel⟩ : ∃ el,t.evs.length = el:=⟨_,rfl⟩
 have HEL:=ζ hel
 rw [hel] at ⊢
 obtain ⟨fz_,cz_,_,_⟩:=HM.out.last1 he
 rw [hel] at cz_
 have fz:=fz_ (el * 5 + 2)
 have HM1 : Hid (PM o ((w.alloc (.cells #[.int .i64 14,.int .i64 (c : Int),.int .i64 a1,.int .i64 a2] 68)).setCell ⟨eb,el * 5 + 2,none⟩ (.int .i64 (c : Int))) g s pa pc { t with evs:=t.evs ++ [⟨(k : Int),14,(c : Int),0,false⟩] } m):=by
  have:=HM.out.lastA he (c : Int)
  rw [hel] at this;exact this
 have HI1 : Hid (((w.alloc (.cells #[.int .i64 14,.int .i64 (c : Int),.int .i64 a1,.int .i64 a2] 68)).setCell ⟨eb,el * 5 + 2,none⟩ (.int .i64 (c : Int))).heap[w.heap.size]? = some (.cells #[.int .i64 14,.int .i64 (c : Int),.int .i64 a1,.int .i64 a2] 68 (0,0))):=by
  obtain ⟨cs,hcs⟩:=HEB.out _ _ HM.out (by simp)
  exact blk_setN HI.out hcs (by decide)
 clear h hA0 NI0 he h8 hin hpo hat hg ho hk hpk hel fz_ hp1
 go_enter Try.func56,Try.ntmps56
 refine wp_seq_k fun K0 hK0 => ?_
 have HK0:=ζ hK0
 clear hK0
 go_wp2
 refine HK0.out _ _ ?_
 clear HK0 K0
 generalize w.alloc _ = X at *
 generalize w.heap.size = gi at *
 obtain ⟨z0,z1,z2,z3⟩:=cellsY4 HI.out
 refine wp_seq_k fun K0 hK0 => ?_
 have HK0:=ζ hK0
 clear hK0
 go_wp2
 refine HK0.out _ _ ?_
 clear HK0 K0 x1 ep
 refine wp_seq_k fun K0 hK0 => ?_
 have HK0:=ζ hK0
 clear hK0
 go_wp2
 refine HK0.out _ _ ?_
 clear HK0 K0 HM HI z0 z1 z2 z3 fz cz_
 generalize World.setCell _ _ _ = X1 at *
 obtain ⟨z0,z1,z2,z3⟩:=cellsY4 HI1.out
 refine wp_seq_q fun KT QT hKT hNT hOT => ?_
 have HKT:=ζ hKT
 have HNT:=ζ hNT
 have HOT:=ζ hOT
 clear hKT hNT hOT
 refine wp_seq_k fun K0 hK0 => ?_
 have HK0:=ζ hK0
 clear hK0
 go_wp2
 refine HK0.out _ _ ?_
 clear HK0 K0
 refine wp_block_q fun Q0 hN0 hE0 hO0 => ?_
 have HN0:=ζ hN0
 have HE0:=ζ hE0
 have HO0:=ζ hO0
 clear hN0 hE0 hO0
 refine wp_seq_block_q fun Kb8 Q8 hKb8 hN8 hE8 hO8 => ?_
 have HKb8:=ζ hKb8
 have HN8:=ζ hN8
 have HE8:=ζ hE8
 have HO8:=ζ hO8
 clear hKb8 hN8 hE8 hO8
 refine wp_seq_block_q fun Kb7 Q7 hKb7 hN7 hE7 hO7 => ?_
 have HKb7:=ζ hKb7
 have HN7:=ζ hN7
 have HE7:=ζ hE7
 have HO7:=ζ hO7
 clear hKb7 hN7 hE7 hO7
 refine wp_seq_block_q fun Kb6 Q6 hKb6 hN6 hE6 hO6 => ?_
 have HKb6:=ζ hKb6
 have HN6:=ζ hN6
 have HE6:=ζ hE6
 have HO6:=ζ hO6
 clear hKb6 hN6 hE6 hO6
 refine wp_seq_block_q fun Kb5 Q5 hKb5 hN5 hE5 hO5 => ?_
 have HKb5:=ζ hKb5
 have HN5:=ζ hN5
 have HE5:=ζ hE5
 have HO5:=ζ hO5
 clear hKb5 hN5 hE5 hO5
 refine wp_seq_block_q fun Kb4 Q4 hKb4 hN4 hE4 hO4 => ?_
 have HKb4:=ζ hKb4
 have HN4:=ζ hN4
 have HE4:=ζ hE4
 have HO4:=ζ hO4
 clear hKb4 hN4 hE4 hO4
 refine wp_seq_block_q fun Kb3 Q3 hKb3 hN3 hE3 hO3 => ?_
 have HKb3:=ζ hKb3
 have HN3:=ζ hN3
 have HE3:=ζ hE3
 have HO3:=ζ hO3
 clear hKb3 hN3 hE3 hO3
 refine wp_seq_block_q fun Kb2 Q2 hKb2 hN2 hE2 hO2 => ?_
 have HKb2:=ζ hKb2
 have HN2:=ζ hN2
 have HE2:=ζ hE2
 have HO2:=ζ hO2
 clear hKb2 hN2 hE2 hO2
 refine wp_seq_block_q fun Kb1 Q1 hKb1 hN1 hE1 hO1 => ?_
 have HKb1:=ζ hKb1
 have HN1:=ζ hN1
 have HE1:=ζ hE1
 have HO1:=ζ hO1
 clear hKb1 hN1 hE1 hO1
 have HX8 : Hid (∀ a w,Kb8 a w → Q1 (.exit 8) a w):=fun a w hk => xZ HO1 8 (xZ HO2 8 (xZ HO3 8 (xZ HO4 8 (xZ HO5 8 (xZ HO6 8 (xZ HO7 8 (HE8.out a w hk)))))))
 have HR8 : Hid (∀ a w,_ → Q0 .ret a w):=fun a w hq => xR HO0 (xR HOT hq)
 have HP8 : Hid (∀ c a w,_ → Q0 (.panic c) a w):=fun c a w hq => xP HO0 (xP HOT hq)
 have HZ8 : Hid (∀ a w,KT a w → Q0 (.exit 0) a w):=fun a w hk => HE0.out a w (HNT.out a w hk)
 have HX7 : Hid (∀ a w,Kb7 a w → Q1 (.exit 7) a w):=fun a w hk => xZ HO1 7 (xZ HO2 7 (xZ HO3 7 (xZ HO4 7 (xZ HO5 7 (xZ HO6 7 (HE7.out a w hk))))))
 have HR7 : Hid (∀ a w,_ → Q8 .ret a w):=fun a w hq => xR HO8 (xR HO0 (xR HOT hq))
 have HP7 : Hid (∀ c a w,_ → Q8 (.panic c) a w):=fun c a w hq => xP HO8 (xP HO0 (xP HOT hq))
 have HZ7 : Hid (∀ a w,KT a w → Q8 (.exit 0) a w):=fun a w hk => xZ HO8 0 (HE0.out a w (HNT.out a w hk))
 have HX6 : Hid (∀ a w,Kb6 a w → Q1 (.exit 6) a w):=fun a w hk => xZ HO1 6 (xZ HO2 6 (xZ HO3 6 (xZ HO4 6 (xZ HO5 6 (HE6.out a w hk)))))
 have HR6 : Hid (∀ a w,_ → Q7 .ret a w):=fun a w hq => xR HO7 (xR HO8 (xR HO0 (xR HOT hq)))
 have HP6 : Hid (∀ c a w,_ → Q7 (.panic c) a w):=fun c a w hq => xP HO7 (xP HO8 (xP HO0 (xP HOT hq)))
 have HZ6 : Hid (∀ a w,KT a w → Q7 (.exit 0) a w):=fun a w hk => xZ HO7 0 (xZ HO8 0 (HE0.out a w (HNT.out a w hk)))
 have HX5 : Hid (∀ a w,Kb5 a w → Q1 (.exit 5) a w):=fun a w hk => xZ HO1 5 (xZ HO2 5 (xZ HO3 5 (xZ HO4 5 (HE5.out a w hk))))
 have HR5 : Hid (∀ a w,_ → Q6 .ret a w):=fun a w hq => xR HO6 (xR HO7 (xR HO8 (xR HO0 (xR HOT hq))))
 have HP5 : Hid (∀ c a w,_ → Q6 (.panic c) a w):=fun c a w hq => xP HO6 (xP HO7 (xP HO8 (xP HO0 (xP HOT hq))))
 have HZ5 : Hid (∀ a w,KT a w → Q6 (.exit 0) a w):=fun a w hk => xZ HO6 0 (xZ HO7 0 (xZ HO8 0 (HE0.out a w (HNT.out a w hk))))
 have HX4 : Hid (∀ a w,Kb4 a w → Q1 (.exit 4) a w):=fun a w hk => xZ HO1 4 (xZ HO2 4 (xZ HO3 4 (HE4.out a w hk)))
 have HR4 : Hid (∀ a w,_ → Q5 .ret a w):=fun a w hq => xR HO5 (xR HO6 (xR HO7 (xR HO8 (xR HO0 (xR HOT hq)))))
 have HP4 : Hid (∀ c a w,_ → Q5 (.panic c) a w):=fun c a w hq => xP HO5 (xP HO6 (xP HO7 (xP HO8 (xP HO0 (xP HOT hq)))))
 have HZ4 : Hid (∀ a w,KT a w → Q5 (.exit 0) a w):=fun a w hk => xZ HO5 0 (xZ HO6 0 (xZ HO7 0 (xZ HO8 0 (HE0.out a w (HNT.out a w hk)))))
 have HX3 : Hid (∀ a w,Kb3 a w → Q1 (.exit 3) a w):=fun a w hk => xZ HO1 3 (xZ HO2 3 (HE3.out a w hk))
 have HR3 : Hid (∀ a w,_ → Q4 .ret a w):=fun a w hq => xR HO4 (xR HO5 (xR HO6 (xR HO7 (xR HO8 (xR HO0 (xR HOT hq))))))
 have HP3 : Hid (∀ c a w,_ → Q4 (.panic c) a w):=fun c a w hq => xP HO4 (xP HO5 (xP HO6 (xP HO7 (xP HO8 (xP HO0 (xP HOT hq))))))
 have HZ3 : Hid (∀ a w,KT a w → Q4 (.exit 0) a w):=fun a w hk => xZ HO4 0 (xZ HO5 0 (xZ HO6 0 (xZ HO7 0 (xZ HO8 0 (HE0.out a w (HNT.out a w hk))))))
 have HX2 : Hid (∀ a w,Kb2 a w → Q1 (.exit 2) a w):=fun a w hk => xZ HO1 2 (HE2.out a w hk)
 have HR2 : Hid (∀ a w,_ → Q3 .ret a w):=fun a w hq => xR HO3 (xR HO4 (xR HO5 (xR HO6 (xR HO7 (xR HO8 (xR HO0 (xR HOT hq)))))))
 have HP2 : Hid (∀ c a w,_ → Q3 (.panic c) a w):=fun c a w hq => xP HO3 (xP HO4 (xP HO5 (xP HO6 (xP HO7 (xP HO8 (xP HO0 (xP HOT hq)))))))
 have HZ2 : Hid (∀ a w,KT a w → Q3 (.exit 0) a w):=fun a w hk => xZ HO3 0 (xZ HO4 0 (xZ HO5 0 (xZ HO6 0 (xZ HO7 0 (xZ HO8 0 (HE0.out a w (HNT.out a w hk)))))))
 have HX1 : Hid (∀ a w,Kb1 a w → Q1 (.exit 1) a w):=fun a w hk => HE1.out a w hk
 have HR1 : Hid (∀ a w,_ → Q2 .ret a w):=fun a w hq => xR HO2 (xR HO3 (xR HO4 (xR HO5 (xR HO6 (xR HO7 (xR HO8 (xR HO0 (xR HOT hq))))))))
 have HP1 : Hid (∀ c a w,_ → Q2 (.panic c) a w):=fun c a w hq => xP HO2 (xP HO3 (xP HO4 (xP HO5 (xP HO6 (xP HO7 (xP HO8 (xP HO0 (xP HOT hq))))))))
 have HZ1 : Hid (∀ a w,KT a w → Q2 (.exit 0) a w):=fun a w hk => xZ HO2 0 (xZ HO3 0 (xZ HO4 0 (xZ HO5 0 (xZ HO6 0 (xZ HO7 0 (xZ HO8 0 (HE0.out a w (HNT.out a w hk))))))))
 have HZx : Hid (∀ a w,KT a w → Q1 (.exit 0) a w):=fun a w hk => xZ HO1 0 (xZ HO2 0 (xZ HO3 0 (xZ HO4 0 (xZ HO5 0 (xZ HO6 0 (xZ HO7 0 (xZ HO8 0 (HE0.out a w (HNT.out a w hk)))))))))
 clear HE0 HO0 HE8 HO8 HE7 HO7 HE6 HO6 HE5 HO5 HE4 HO4 HE3 HO3 HE2 HO2 HE1 HO1 HN0 HNT
 refine wp_seq_k fun Kx hKx => ?_
 have HKx:=ζ hKx
 clear hKx
 refine wp_seq_k fun Kr hKr => ?_
 have HKr:=ζ hKr
 clear hKr
 go_wp2
 refine HKr.out _ _ ?_
 clear HKr Kr
 refine wp_seq_k fun Kr hKr => ?_
 have HKr:=ζ hKr
 clear hKr
 go_wp2
 refine HKr.out _ _ ?_
 clear HKr Kr
 refine wp_seq_k fun Kr hKr => ?_
 have HKr:=ζ hKr
 clear hKr
 go_wp2
 refine HKr.out _ _ ?_
 clear HKr Kr
 refine wp_seq_k fun Kr hKr => ?_
 have HKr:=ζ hKr
 clear hKr
 go_wp2
 refine HKr.out _ _ ?_
 clear HKr Kr
 refine wp_seq_k fun Kr hKr => ?_
 have HKr:=ζ hKr
 clear hKr
 go_wp2
 refine HKr.out _ _ ?_
 clear HKr Kr
 refine wp_seq_k fun Kr hKr => ?_
 have HKr:=ζ hKr
 clear hKr
 go_wp2
 refine HKr.out _ _ ?_
 clear HKr Kr
 refine wp_seq_k fun Kr hKr => ?_
 have HKr:=ζ hKr
 clear hKr
 go_wp2
 refine HKr.out _ _ ?_
 clear HKr Kr
 go_wp2
 refine HX8.out _ _ ?_
 refine HKb8.out _ _ ?_
 have HGd : Hid (Mc.Good s { t with evs:=t.evs ++ [⟨(k : Int),14,(c : Int),0,false⟩] }) → True:=fun _ => trivial
 clear HGd
 have HCs:=ζ (pstart (t:={ t with evs:=t.evs ++ [⟨(k : Int),14,(c : Int),0,false⟩] }) c k X1 HM1.out HG.out.r1 HG.out.r2 hc HKk.out)
 rw [HPK.out] at HCs
 go_wp2_with fail
 refine HCs.out.mono ?_
 rintro e_ w_ (⟨hl,rfl,hM⟩ | ⟨hl,rfl,v_,b_,hM⟩)
 ·change 512 ≤ t.rns.length at hl
  have HM2:=ζ hM
  have HF:=ζ (HF14e.out hl)
  clear hM hl;refine HP8.out _ _ _ ?_
  refine ⟨rfl,?_⟩
  rw [HPo.out];exact DoQ.bad_ HF.out ⟨rfl,rfl,rfl,rfl,rfl⟩ rfl HM2.out
 ·change ¬ 512 ≤ t.rns.length at hl
  have HF:=ζ (HF14.out hl)
  have HM2 : Hid (PM o w_ g s pa pc { t with rns:=t.rns ++ [⟨(c : Int),0,(Mc.rn t k).regs,(pg s (c : Int)).isEmpty⟩],evs:=t.evs ++ [⟨(k : Int),14,(c : Int),0,false⟩] } { m with rv:=v_,ps:=m.ps ++ [b_] }):=hM
  obtain ⟨fz_,_,cz_,_⟩:=PM.last1 (t:={ t with rns:=t.rns ++ [⟨(c : Int),0,(Mc.rn t k).regs,(pg s (c : Int)).isEmpty⟩] }) HM2.out HE.out
  change w_.cell? ⟨eb,t.evs.length * 5 + 3,none⟩ = _ at cz_
  rw [HEL.out] at cz_;have fz:=fz_ (el * 5 + 3)
  have HM3 : Hid (PM o (w_.setCell ⟨eb,el * 5 + 3,none⟩ (.int .i64 (t.rns.length : Int))) g s pa pc { t with rns:=t.rns ++ [⟨(c : Int),0,(Mc.rn t k).regs,(pg s (c : Int)).isEmpty⟩],evs:=t.evs ++ [⟨(k : Int),14,(c : Int),(t.rns.length : Int),false⟩] } { m with rv:=v_,ps:=m.ps ++ [b_] }):=by
   have:=PM.lastV (t:={ t with rns:=t.rns ++ [⟨(c : Int),0,(Mc.rn t k).regs,(pg s (c : Int)).isEmpty⟩] }) HM2.out HE.out (t.rns.length : Int)
   change PM o (w_.setCell ⟨eb,t.evs.length * 5 + 3,none⟩ _) g s pa pc _ _ at this
   rw [HEL.out] at this;exact this
  have HPS : Hid ((m.ps ++ [b_]).getD k 0 = m.ps.getD k 0):=by
   have h1:=HM1.out.rns.1
   have h2 : m.ps.length = t.rns.length:=by simpa using h1
   show _ = _
   rw [List.getD_eq_getElem?_getD,List.getElem?_append_left (by rw [h2];exact HKk.out),← List.getD_eq_getElem?_getD]
  clear hM hl HM2 fz_;obtain ⟨rl,hrl⟩ : ∃ rl,t.rns.length = rl:=⟨_,rfl⟩
  try rw [hrl] at HM3 HF
  try simp only [hrl]
  clear hrl;go_wp2;refine HZ8.out _ _ ?_;refine HKT.out _ _ ?_;go_wp2;rw [HPo.out];exact DoQ.ok_ (m':={ m with rv:=v_,ps:=m.ps ++ [b_] }) HF.out ⟨rfl,rfl,rfl,rfl,rfl⟩ HPS.out HM3.out
end LW
end Go.Proofs.Ytfbnakmmmphedaa
