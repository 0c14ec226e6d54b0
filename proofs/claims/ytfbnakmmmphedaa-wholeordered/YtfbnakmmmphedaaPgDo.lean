/-
 What an instruction does.
-/
import Derived.Test.YtfbnakmmmphedaaPgEo
set_option linter.unusedVariables false
set_option linter.unusedSimpArgs false
set_option maxRecDepth 100000
set_option maxHeartbeats 4000000
namespace Go.Proofs.Ytfbnakmmmphedaa
open Go.RowKit
namespace LW
open Mc
theorem pdo1 {o : World} {g : Nat} {s : Syst} {pa : Option Addr} {pc : Nat} {t : St} {m : PV} (k p : Nat) (r : Nat) (a1 a2 : Int) (eb ecap : Nat) (w : World) (h : PM o w g s pa pc { t with evs:=t.evs ++ [⟨(k : Int),1,0,0,false⟩] } m) (ho : Mc.Ok s) (hg : Mc.Good s t) (hk : k < t.rns.length) (hin : Mc.ins s t k = ⟨1,(r : Int),a1,a2⟩) (hpo : (Mc.rn t k).pos = (p : Int)) (hat : aT s (Mc.rn t k) = (p : Int)) (hp1 : p ≤ 256) (hr : r < 8) (he : m.ev = .slice (some ⟨eb,0,none⟩) (t.evs.length + 1) ecap) :
  Calls Try.prog 42 #[.pointer (some ⟨g,0,none⟩),.pointer (some ⟨m.ps.getD k 0,0,none⟩),.agg #[.int .i64 1,.int .i64 (r : Int),.int .i64 a1,.int .i64 a2],.pointer (some ⟨eb,t.evs.length * 5,none⟩)] w (DoQ o g s pa pc t m k):=by
 obtain ⟨POST,hP⟩ : ∃ P,P = DoQ o g s pa pc t m k:=⟨_,rfl⟩
 have HPo:=ζ hP
 rw [← hP]
 clear hP
 have h8:=(hg.gr k hk).rl
 have hA0 : Below w.heap.size w (w.alloc (.cells #[.int .i64 1,.int .i64 (r : Int),.int .i64 a1,.int .i64 a2] 68)):=(Below.refl _ _).alloc (Nat.le_refl _) _
 have NI0 : (w.alloc (.cells #[.int .i64 1,.int .i64 (r : Int),.int .i64 a1,.int .i64 a2] 68)).heap[w.heap.size]? = some (.cells #[.int .i64 1,.int .i64 (r : Int),.int .i64 a1,.int .i64 a2] 68 (0,0)):=heap_alloc_new w _
 have HM:=ζ (h.below hA0)
 have HI:=ζ NI0
 have HE:=ζ he
 have H8:=ζ h8
 have HKk:=ζ hk
 have HIn:=ζ hin
 have HG:=ζ hg
 have HOk:=ζ ho
 have HAT : Hid (∀ (u : St) (W : World) (m2 : PV),PM o W g s pa pc u m2 → (u.rns = t.rns ∨ ∃ r x,u.rns = Mc.setR t k r x) → m2.ps = m.ps → W.cell? ⟨m.ps.getD k 0,1,none⟩ = some (.int .i64 (p : Int))):=fun u W m2 hW hu hp => by
  have hl : k < u.rns.length:=by rcases hu with e | ⟨r,x,e⟩ <;> rw [e] <;> (try rw [setR_len]) <;> exact hk
  have h1:=(hW.at1 k hl).1
  rw [hp] at h1;rw [h1,← hat];unfold Mc.rn aT
  rcases hu with e | ⟨r,x,e⟩
  ·rw [e]
  ·rw [e]
   unfold Mc.setR
   rw [rn_set t k k _ hk,if_pos rfl];rfl
 have HRg : Hid (∀ (W : World) (e : Ev) (r : Nat),PM o W g s pa pc { t with evs:=t.evs ++ [e] } m → r < 8 → W.cell? ⟨m.ps.getD k 0,2 + r,none⟩ = some (.int .i64 (reg t k (r : Int)))):=fun W e r hW hr => hW.reg1 k hk r hr
 have HRf : Hid (∀ (W : World) (e : Ev) (j : Nat),PM o W g s pa pc { t with evs:=t.evs ++ [e] } m → W.frozen? ⟨m.ps.getD k 0,j,none⟩ = false):=fun W e j hW => hW.rfz k hk j
 have HSr : Hid (∀ (W : World) (e : Ev) (r : Nat) (x : Int),PM o W g s pa pc { t with evs:=t.evs ++ [e] } m → r < 8 → PM o (W.setCell ⟨m.ps.getD k 0,2 + r,none⟩ (.int .i64 x)) g s pa pc { t with rns:=Mc.setR t k (r : Int) x,evs:=t.evs ++ [e] } m):=fun W e r x hW hr => hW.setReg k hk r hr h8 x
 have ep : IntKind.i64.wrap ((p : Int) + 1) = (p : Int) + 1:=by rw [IntKind.wrap_i64];omega
 have hF_:=F1 (s:=s) (t:=t) (k:=k) (by rw [hin])
 try simp only [hin,hpo,Int.toNat_natCast] at hF_
 have HF:=ζ hF_
 clear hF_
 have r1 : (r : Int) < 8:=by omega
 have rr0 : (0 : Int) ≤ (r : Int):=by omega
 obtain ⟨pk,hpk⟩ : ∃ pk,m.ps.getD k 0 = pk:=⟨_,rfl⟩
 have HPK:=ζ hpk
 rw [hpk] at HRg HRf HSr HAT ⊢
 obtain ⟨el,hel⟩ : ∃ el,t.evs.length = el:=⟨_,rfl⟩
 have HEL:=ζ hel
 rw [hel] at ⊢
 clear h hA0 NI0 he h8 hin hpo hat hg ho hk hpk hel hp1
 go_enter Try.func42,Try.ntmps42
 refine wp_seq_k fun K0 hK0 => ?_
 have HK0:=ζ hK0
 clear hK0
 go_wp2
 refine HK0.out _ _ ?_
 clear HK0 K0
 generalize w.alloc _ = X at *
 generalize w.heap.size = gi at *
 obtain ⟨z0,z1,z2,z3⟩:=cellsY4 HI.out
 refine wp_seq_q fun KT QT hKT hNT hOT => ?_
 have HKT:=ζ hKT
 have HNT:=ζ hNT
 have HOT:=ζ hOT
 clear hKT hNT hOT
 refine wp_seq_k fun K0 hK0 => ?_
 have HK0:=ζ hK0
 clear hK0
 go_wp2
 refine HK0.out _ _ ?_
 clear HK0 K0
 refine wp_block_q fun Q0 hN0 hE0 hO0 => ?_
 have HN0:=ζ hN0
 have HE0:=ζ hE0
 have HO0:=ζ hO0
 clear hN0 hE0 hO0
 refine wp_seq_block_q fun Kb7 Q7 hKb7 hN7 hE7 hO7 => ?_
 have HKb7:=ζ hKb7
 have HN7:=ζ hN7
 have HE7:=ζ hE7
 have HO7:=ζ hO7
 clear hKb7 hN7 hE7 hO7
 refine wp_seq_block_q fun Kb6 Q6 hKb6 hN6 hE6 hO6 => ?_
 have HKb6:=ζ hKb6
 have HN6:=ζ hN6
 have HE6:=ζ hE6
 have HO6:=ζ hO6
 clear hKb6 hN6 hE6 hO6
 refine wp_seq_block_q fun Kb5 Q5 hKb5 hN5 hE5 hO5 => ?_
 have HKb5:=ζ hKb5
 have HN5:=ζ hN5
 have HE5:=ζ hE5
 have HO5:=ζ hO5
 clear hKb5 hN5 hE5 hO5
 refine wp_seq_block_q fun Kb4 Q4 hKb4 hN4 hE4 hO4 => ?_
 have HKb4:=ζ hKb4
 have HN4:=ζ hN4
 have HE4:=ζ hE4
 have HO4:=ζ hO4
 clear hKb4 hN4 hE4 hO4
 refine wp_seq_block_q fun Kb3 Q3 hKb3 hN3 hE3 hO3 => ?_
 have HKb3:=ζ hKb3
 have HN3:=ζ hN3
 have HE3:=ζ hE3
 have HO3:=ζ hO3
 clear hKb3 hN3 hE3 hO3
 refine wp_seq_block_q fun Kb2 Q2 hKb2 hN2 hE2 hO2 => ?_
 have HKb2:=ζ hKb2
 have HN2:=ζ hN2
 have HE2:=ζ hE2
 have HO2:=ζ hO2
 clear hKb2 hN2 hE2 hO2
 refine wp_seq_block_q fun Kb1 Q1 hKb1 hN1 hE1 hO1 => ?_
 have HKb1:=ζ hKb1
 have HN1:=ζ hN1
 have HE1:=ζ hE1
 have HO1:=ζ hO1
 clear hKb1 hN1 hE1 hO1
 have HX7 : Hid (∀ a w,Kb7 a w → Q1 (.exit 7) a w):=fun a w hk => xZ HO1 7 (xZ HO2 7 (xZ HO3 7 (xZ HO4 7 (xZ HO5 7 (xZ HO6 7 (HE7.out a w hk))))))
 have HR7 : Hid (∀ a w,_ → Q0 .ret a w):=fun a w hq => xR HO0 (xR HOT hq)
 have HP7 : Hid (∀ c a w,_ → Q0 (.panic c) a w):=fun c a w hq => xP HO0 (xP HOT hq)
 have HZ7 : Hid (∀ a w,KT a w → Q0 (.exit 0) a w):=fun a w hk => HE0.out a w (HNT.out a w hk)
 have HX6 : Hid (∀ a w,Kb6 a w → Q1 (.exit 6) a w):=fun a w hk => xZ HO1 6 (xZ HO2 6 (xZ HO3 6 (xZ HO4 6 (xZ HO5 6 (HE6.out a w hk)))))
 have HR6 : Hid (∀ a w,_ → Q7 .ret a w):=fun a w hq => xR HO7 (xR HO0 (xR HOT hq))
 have HP6 : Hid (∀ c a w,_ → Q7 (.panic c) a w):=fun c a w hq => xP HO7 (xP HO0 (xP HOT hq))
 have HZ6 : Hid (∀ a w,KT a w → Q7 (.exit 0) a w):=fun a w hk => xZ HO7 0 (HE0.out a w (HNT.out a w hk))
 have HX5 : Hid (∀ a w,Kb5 a w → Q1 (.exit 5) a w):=fun a w hk => xZ HO1 5 (xZ HO2 5 (xZ HO3 5 (xZ HO4 5 (HE5.out a w hk))))
 have HR5 : Hid (∀ a w,_ → Q6 .ret a w):=fun a w hq => xR HO6 (xR HO7 (xR HO0 (xR HOT hq)))
 have HP5 : Hid (∀ c a w,_ → Q6 (.panic c) a w):=fun c a w hq => xP HO6 (xP HO7 (xP HO0 (xP HOT hq)))
 have HZ5 : Hid (∀ a w,KT a w → Q6 (.exit 0) a w):=fun a w hk => xZ HO6 0 (xZ HO7 0 (HE0.out a w (HNT.out a w hk)))
 have HX4 : Hid (∀ a w,Kb4 a w → Q1 (.exit 4) a w):=fun a w hk => xZ HO1 4 (xZ HO2 4 (xZ HO3 4 (HE4.out a w hk)))
 have HR4 : Hid (∀ a w,_ → Q5 .ret a w):=fun a w hq => xR HO5 (xR HO6 (xR HO7 (xR HO0 (xR HOT hq))))
 have HP4 : Hid (∀ c a w,_ → Q5 (.panic c) a w):=fun c a w hq => xP HO5 (xP HO6 (xP HO7 (xP HO0 (xP HOT hq))))
 have HZ4 : Hid (∀ a w,KT a w → Q5 (.exit 0) a w):=fun a w hk => xZ HO5 0 (xZ HO6 0 (xZ HO7 0 (HE0.out a w (HNT.out a w hk))))
 have HX3 : Hid (∀ a w,Kb3 a w → Q1 (.exit 3) a w):=fun a w hk => xZ HO1 3 (xZ HO2 3 (HE3.out a w hk))
 have HR3 : Hid (∀ a w,_ → Q4 .ret a w):=fun a w hq => xR HO4 (xR HO5 (xR HO6 (xR HO7 (xR HO0 (xR HOT hq)))))
 have HP3 : Hid (∀ c a w,_ → Q4 (.panic c) a w):=fun c a w hq => xP HO4 (xP HO5 (xP HO6 (xP HO7 (xP HO0 (xP HOT hq)))))
 have HZ3 : Hid (∀ a w,KT a w → Q4 (.exit 0) a w):=fun a w hk => xZ HO4 0 (xZ HO5 0 (xZ HO6 0 (xZ HO7 0 (HE0.out a w (HNT.out a w hk)))))
 have HX2 : Hid (∀ a w,Kb2 a w → Q1 (.exit 2) a w):=fun a w hk => xZ HO1 2 (HE2.out a w hk)
 have HR2 : Hid (∀ a w,_ → Q3 .ret a w):=fun a w hq => xR HO3 (xR HO4 (xR HO5 (xR HO6 (xR HO7 (xR HO0 (xR HOT hq))))))
 have HP2 : Hid (∀ c a w,_ → Q3 (.panic c) a w):=fun c a w hq => xP HO3 (xP HO4 (xP HO5 (xP HO6 (xP HO7 (xP HO0 (xP HOT hq))))))
 have HZ2 : Hid (∀ a w,KT a w → Q3 (.exit 0) a w):=fun a w hk => xZ HO3 0 (xZ HO4 0 (xZ HO5 0 (xZ HO6 0 (xZ HO7 0 (HE0.out a w (HNT.out a w hk))))))
 have HX1 : Hid (∀ a w,Kb1 a w → Q1 (.exit 1) a w):=fun a w hk => HE1.out a w hk
 have HR1 : Hid (∀ a w,_ → Q2 .ret a w):=fun a w hq => xR HO2 (xR HO3 (xR HO4 (xR HO5 (xR HO6 (xR HO7 (xR HO0 (xR HOT hq)))))))
 have HP1 : Hid (∀ c a w,_ → Q2 (.panic c) a w):=fun c a w hq => xP HO2 (xP HO3 (xP HO4 (xP HO5 (xP HO6 (xP HO7 (xP HO0 (xP HOT hq)))))))
 have HZ1 : Hid (∀ a w,KT a w → Q2 (.exit 0) a w):=fun a w hk => xZ HO2 0 (xZ HO3 0 (xZ HO4 0 (xZ HO5 0 (xZ HO6 0 (xZ HO7 0 (HE0.out a w (HNT.out a w hk)))))))
 have HZx : Hid (∀ a w,KT a w → Q1 (.exit 0) a w):=fun a w hk => xZ HO1 0 (xZ HO2 0 (xZ HO3 0 (xZ HO4 0 (xZ HO5 0 (xZ HO6 0 (xZ HO7 0 (HE0.out a w (HNT.out a w hk))))))))
 clear HE0 HO0 HE7 HO7 HE6 HO6 HE5 HO5 HE4 HO4 HE3 HO3 HE2 HO2 HE1 HO1 HN0 HNT
 refine wp_seq_k fun Kx hKx => ?_
 have HKx:=ζ hKx
 clear hKx
 refine wp_seq_k fun Kr hKr => ?_
 have HKr:=ζ hKr
 clear hKr
 go_wp2
 refine HX1.out _ _ ?_
 refine HKb1.out _ _ ?_
 refine wp_seq_k fun Kq hKq => ?_
 have HKq:=ζ hKq
 clear hKq
 refine wp_region_noPanic ?_
 refine RG.wp_region_L (fun Z => Below X.heap.size X Z) (fun Z => True) [8] (by kernel_rfl) ?_
 refine RG.wpL_any fun Yz14 hY => ?_
 have HBz14 : Hid (Below X.heap.size X Yz14):=by rw [hY];exact below_drewN (Below.refl _ _) 1
 clear hY
 refine RG.wpL_take (fuel:=1) (a':=?Az14) [0,1,2,3,4,5,6,7] (by kernel_rfl) (by kernel_rfl) (fun _ _ _ _ _ h => h) trivial (fun _ => HBz14.out) ?rz14 ?_
 case rz14 =>
  iterate 2
   refine RG.rW ?_ (fun Z hT => ?_) ?_
   rotate_left
   ·go_simp
    rfl
   simp only [Act.put,lA,lB,lC,lD,lE,lF]
  refine RG.RunsIf.strong (v:=.int .i64 (r : Int)) (by rfl) (by kernel_rfl) (by rfl) (fun Z hT hS => ?_) ?_
  ·have y1:=keepC hS z1;have y2:=keepC hS z2
   go_simp
  simp only [Act.put,lA,lB,lC,lD,lE,lF]
  refine RG.rW ?_ (fun Z hT => ?_) ?_
  rotate_left
  ·go_simp
   rfl
  simp only [Act.put,lA,lB,lC,lD,lE,lF]
  refine RG.RunsIf.strong (v:=.int .i64 a1) (by rfl) (by kernel_rfl) (by rfl) (fun Z hT hS => ?_) ?_
  ·have y1:=keepC hS z1;have y2:=keepC hS z2
   go_simp
  simp only [Act.put,lA,lB,lC,lD,lE,lF]
  iterate 3
   refine RG.rW ?_ (fun Z hT => ?_) ?_
   rotate_left
   ·go_simp
    rfl
   simp only [Act.put,lA,lB,lC,lD,lE,lF]
  exact RG.RunsIf.nil
 have HMq:=ζ (HM.out.below HBz14.out)
 have cz:=HRg.out Yz14 _ r HMq.out hr
 have fz:=HRf.out Yz14 _ (2 + r) HMq.out
 refine RG.wpL_late (i:=8) (by kernel_rfl) (by rfl) (by rfl) (by kernel_rfl) (fun KX hK => ?_)
 have HK:=ζ hK
 clear hK
 go_simp
 refine HK.out _ _ trivial ?_
 clear HK KX cz fz
 refine RG.wpL_done (by kernel_rfl) ?_ _
 refine NoPanic.normal ?_
 have HM2:=ζ (HSr.out _ _ r a1 HMq.out hr)
 refine HKq.out _ _ ?_
 go_wp2
 refine HZ1.out _ _ ?_
 refine HKT.out _ _ ?_
 have xat:=HAT.out _ _ _ HM2.out (.inr ⟨_,_,rfl⟩) rfl
 go_wp2
 rw [HPo.out]
 exact DoQ.ok_ HF.out ⟨rfl,rfl,rfl,rfl,rfl⟩ rfl HM2.out
theorem pdo2 {o : World} {g : Nat} {s : Syst} {pa : Option Addr} {pc : Nat} {t : St} {m : PV} (k p : Nat) (r q : Nat) (a2 : Int) (eb ecap : Nat) (w : World) (h : PM o w g s pa pc { t with evs:=t.evs ++ [⟨(k : Int),2,0,0,false⟩] } m) (ho : Mc.Ok s) (hg : Mc.Good s t) (hk : k < t.rns.length) (hin : Mc.ins s t k = ⟨2,(r : Int),(q : Int),a2⟩) (hpo : (Mc.rn t k).pos = (p : Int)) (hat : aT s (Mc.rn t k) = (p : Int)) (hp1 : p ≤ 256) (hr : r < 8) (hq : q < 8) (he : m.ev = .slice (some ⟨eb,0,none⟩) (t.evs.length + 1) ecap) :
  Calls Try.prog 42 #[.pointer (some ⟨g,0,none⟩),.pointer (some ⟨m.ps.getD k 0,0,none⟩),.agg #[.int .i64 2,.int .i64 (r : Int),.int .i64 (q : Int),.int .i64 a2],.pointer (some ⟨eb,t.evs.length * 5,none⟩)] w (DoQ o g s pa pc t m k):=by
 obtain ⟨POST,hP⟩ : ∃ P,P = DoQ o g s pa pc t m k:=⟨_,rfl⟩
 have HPo:=ζ hP
 rw [← hP]
 clear hP
 have h8:=(hg.gr k hk).rl
 have hA0 : Below w.heap.size w (w.alloc (.cells #[.int .i64 2,.int .i64 (r : Int),.int .i64 (q : Int),.int .i64 a2] 68)):=(Below.refl _ _).alloc (Nat.le_refl _) _
 have NI0 : (w.alloc (.cells #[.int .i64 2,.int .i64 (r : Int),.int .i64 (q : Int),.int .i64 a2] 68)).heap[w.heap.size]? = some (.cells #[.int .i64 2,.int .i64 (r : Int),.int .i64 (q : Int),.int .i64 a2] 68 (0,0)):=heap_alloc_new w _
 have HM:=ζ (h.below hA0)
 have HI:=ζ NI0
 have HE:=ζ he
 have H8:=ζ h8
 have HKk:=ζ hk
 have HIn:=ζ hin
 have HG:=ζ hg
 have HOk:=ζ ho
 have HAT : Hid (∀ (u : St) (W : World) (m2 : PV),PM o W g s pa pc u m2 → (u.rns = t.rns ∨ ∃ r x,u.rns = Mc.setR t k r x) → m2.ps = m.ps → W.cell? ⟨m.ps.getD k 0,1,none⟩ = some (.int .i64 (p : Int))):=fun u W m2 hW hu hp => by
  have hl : k < u.rns.length:=by rcases hu with e | ⟨r,x,e⟩ <;> rw [e] <;> (try rw [setR_len]) <;> exact hk
  have h1:=(hW.at1 k hl).1
  rw [hp] at h1;rw [h1,← hat];unfold Mc.rn aT
  rcases hu with e | ⟨r,x,e⟩
  ·rw [e]
  ·rw [e]
   unfold Mc.setR
   rw [rn_set t k k _ hk,if_pos rfl];rfl
 have HRg : Hid (∀ (W : World) (e : Ev) (r : Nat),PM o W g s pa pc { t with evs:=t.evs ++ [e] } m → r < 8 → W.cell? ⟨m.ps.getD k 0,2 + r,none⟩ = some (.int .i64 (reg t k (r : Int)))):=fun W e r hW hr => hW.reg1 k hk r hr
 have HRf : Hid (∀ (W : World) (e : Ev) (j : Nat),PM o W g s pa pc { t with evs:=t.evs ++ [e] } m → W.frozen? ⟨m.ps.getD k 0,j,none⟩ = false):=fun W e j hW => hW.rfz k hk j
 have HSr : Hid (∀ (W : World) (e : Ev) (r : Nat) (x : Int),PM o W g s pa pc { t with evs:=t.evs ++ [e] } m → r < 8 → PM o (W.setCell ⟨m.ps.getD k 0,2 + r,none⟩ (.int .i64 x)) g s pa pc { t with rns:=Mc.setR t k (r : Int) x,evs:=t.evs ++ [e] } m):=fun W e r x hW hr => hW.setReg k hk r hr h8 x
 have ep : IntKind.i64.wrap ((p : Int) + 1) = (p : Int) + 1:=by rw [IntKind.wrap_i64];omega
 have hF_:=F2 (s:=s) (t:=t) (k:=k) (by rw [hin])
 try simp only [hin,hpo,Int.toNat_natCast] at hF_
 have HF:=ζ hF_
 clear hF_
 have r1 : (r : Int) < 8:=by omega
 have rr0 : (0 : Int) ≤ (r : Int):=by omega
 have q1 : (q : Int) < 8:=by omega
 have qq0 : (0 : Int) ≤ (q : Int):=by omega
 have HRA : Hid (reg t k (r : Int) = reg t k (r : Int)):=rfl
 obtain ⟨pk,hpk⟩ : ∃ pk,m.ps.getD k 0 = pk:=⟨_,rfl⟩
 have HPK:=ζ hpk
 rw [hpk] at HRg HRf HSr HAT ⊢
 obtain ⟨el,hel⟩ : ∃ el,t.evs.length = el:=⟨_,rfl⟩
 have HEL:=ζ hel
 rw [hel] at ⊢
 clear h hA0 NI0 he h8 hin hpo hat hg ho hk hpk hel hp1
 go_enter Try.func42,Try.ntmps42
 refine wp_seq_k fun K0 hK0 => ?_
 have HK0:=ζ hK0
 clear hK0
 go_wp2
 refine HK0.out _ _ ?_
 clear HK0 K0
 generalize w.alloc _ = X at *
 generalize w.heap.size = gi at *
 obtain ⟨z0,z1,z2,z3⟩:=cellsY4 HI.out
 refine wp_seq_q fun KT QT hKT hNT hOT => ?_
 have HKT:=ζ hKT
 have HNT:=ζ hNT
 have HOT:=ζ hOT
 clear hKT hNT hOT
 refine wp_seq_k fun K0 hK0 => ?_
 have HK0:=ζ hK0
 clear hK0
 go_wp2
 refine HK0.out _ _ ?_
 clear HK0 K0
 refine wp_block_q fun Q0 hN0 hE0 hO0 => ?_
 have HN0:=ζ hN0
 have HE0:=ζ hE0
 have HO0:=ζ hO0
 clear hN0 hE0 hO0
 refine wp_seq_block_q fun Kb7 Q7 hKb7 hN7 hE7 hO7 => ?_
 have HKb7:=ζ hKb7
 have HN7:=ζ hN7
 have HE7:=ζ hE7
 have HO7:=ζ hO7
 clear hKb7 hN7 hE7 hO7
 refine wp_seq_block_q fun Kb6 Q6 hKb6 hN6 hE6 hO6 => ?_
 have HKb6:=ζ hKb6
 have HN6:=ζ hN6
 have HE6:=ζ hE6
 have HO6:=ζ hO6
 clear hKb6 hN6 hE6 hO6
 refine wp_seq_block_q fun Kb5 Q5 hKb5 hN5 hE5 hO5 => ?_
 have HKb5:=ζ hKb5
 have HN5:=ζ hN5
 have HE5:=ζ hE5
 have HO5:=ζ hO5
 clear hKb5 hN5 hE5 hO5
 refine wp_seq_block_q fun Kb4 Q4 hKb4 hN4 hE4 hO4 => ?_
 have HKb4:=ζ hKb4
 have HN4:=ζ hN4
 have HE4:=ζ hE4
 have HO4:=ζ hO4
 clear hKb4 hN4 hE4 hO4
 refine wp_seq_block_q fun Kb3 Q3 hKb3 hN3 hE3 hO3 => ?_
 have HKb3:=ζ hKb3
 have HN3:=ζ hN3
 have HE3:=ζ hE3
 have HO3:=ζ hO3
 clear hKb3 hN3 hE3 hO3
 refine wp_seq_block_q fun Kb2 Q2 hKb2 hN2 hE2 hO2 => ?_
 have HKb2:=ζ hKb2
 have HN2:=ζ hN2
 have HE2:=ζ hE2
 have HO2:=ζ hO2
 clear hKb2 hN2 hE2 hO2
 refine wp_seq_block_q fun Kb1 Q1 hKb1 hN1 hE1 hO1 => ?_
 have HKb1:=ζ hKb1
 have HN1:=ζ hN1
 have HE1:=ζ hE1
 have HO1:=ζ hO1
 clear hKb1 hN1 hE1 hO1
 have HX7 : Hid (∀ a w,Kb7 a w → Q1 (.exit 7) a w):=fun a w hk => xZ HO1 7 (xZ HO2 7 (xZ HO3 7 (xZ HO4 7 (xZ HO5 7 (xZ HO6 7 (HE7.out a w hk))))))
 have HR7 : Hid (∀ a w,_ → Q0 .ret a w):=fun a w hq => xR HO0 (xR HOT hq)
 have HP7 : Hid (∀ c a w,_ → Q0 (.panic c) a w):=fun c a w hq => xP HO0 (xP HOT hq)
 have HZ7 : Hid (∀ a w,KT a w → Q0 (.exit 0) a w):=fun a w hk => HE0.out a w (HNT.out a w hk)
 have HX6 : Hid (∀ a w,Kb6 a w → Q1 (.exit 6) a w):=fun a w hk => xZ HO1 6 (xZ HO2 6 (xZ HO3 6 (xZ HO4 6 (xZ HO5 6 (HE6.out a w hk)))))
 have HR6 : Hid (∀ a w,_ → Q7 .ret a w):=fun a w hq => xR HO7 (xR HO0 (xR HOT hq))
 have HP6 : Hid (∀ c a w,_ → Q7 (.panic c) a w):=fun c a w hq => xP HO7 (xP HO0 (xP HOT hq))
 have HZ6 : Hid (∀ a w,KT a w → Q7 (.exit 0) a w):=fun a w hk => xZ HO7 0 (HE0.out a w (HNT.out a w hk))
 have HX5 : Hid (∀ a w,Kb5 a w → Q1 (.exit 5) a w):=fun a w hk => xZ HO1 5 (xZ HO2 5 (xZ HO3 5 (xZ HO4 5 (HE5.out a w hk))))
 have HR5 : Hid (∀ a w,_ → Q6 .ret a w):=fun a w hq => xR HO6 (xR HO7 (xR HO0 (xR HOT hq)))
 have HP5 : Hid (∀ c a w,_ → Q6 (.panic c) a w):=fun c a w hq => xP HO6 (xP HO7 (xP HO0 (xP HOT hq)))
 have HZ5 : Hid (∀ a w,KT a w → Q6 (.exit 0) a w):=fun a w hk => xZ HO6 0 (xZ HO7 0 (HE0.out a w (HNT.out a w hk)))
 have HX4 : Hid (∀ a w,Kb4 a w → Q1 (.exit 4) a w):=fun a w hk => xZ HO1 4 (xZ HO2 4 (xZ HO3 4 (HE4.out a w hk)))
 have HR4 : Hid (∀ a w,_ → Q5 .ret a w):=fun a w hq => xR HO5 (xR HO6 (xR HO7 (xR HO0 (xR HOT hq))))
 have HP4 : Hid (∀ c a w,_ → Q5 (.panic c) a w):=fun c a w hq => xP HO5 (xP HO6 (xP HO7 (xP HO0 (xP HOT hq))))
 have HZ4 : Hid (∀ a w,KT a w → Q5 (.exit 0) a w):=fun a w hk => xZ HO5 0 (xZ HO6 0 (xZ HO7 0 (HE0.out a w (HNT.out a w hk))))
 have HX3 : Hid (∀ a w,Kb3 a w → Q1 (.exit 3) a w):=fun a w hk => xZ HO1 3 (xZ HO2 3 (HE3.out a w hk))
 have HR3 : Hid (∀ a w,_ → Q4 .ret a w):=fun a w hq => xR HO4 (xR HO5 (xR HO6 (xR HO7 (xR HO0 (xR HOT hq)))))
 have HP3 : Hid (∀ c a w,_ → Q4 (.panic c) a w):=fun c a w hq => xP HO4 (xP HO5 (xP HO6 (xP HO7 (xP HO0 (xP HOT hq)))))
 have HZ3 : Hid (∀ a w,KT a w → Q4 (.exit 0) a w):=fun a w hk => xZ HO4 0 (xZ HO5 0 (xZ HO6 0 (xZ HO7 0 (HE0.out a w (HNT.out a w hk)))))
 have HX2 : Hid (∀ a w,Kb2 a w → Q1 (.exit 2) a w):=fun a w hk => xZ HO1 2 (HE2.out a w hk)
 have HR2 : Hid (∀ a w,_ → Q3 .ret a w):=fun a w hq => xR HO3 (xR HO4 (xR HO5 (xR HO6 (xR HO7 (xR HO0 (xR HOT hq))))))
 have HP2 : Hid (∀ c a w,_ → Q3 (.panic c) a w):=fun c a w hq => xP HO3 (xP HO4 (xP HO5 (xP HO6 (xP HO7 (xP HO0 (xP HOT hq))))))
 have HZ2 : Hid (∀ a w,KT a w → Q3 (.exit 0) a w):=fun a w hk => xZ HO3 0 (xZ HO4 0 (xZ HO5 0 (xZ HO6 0 (xZ HO7 0 (HE0.out a w (HNT.out a w hk))))))
 have HX1 : Hid (∀ a w,Kb1 a w → Q1 (.exit 1) a w):=fun a w hk => HE1.out a w hk
 have HR1 : Hid (∀ a w,_ → Q2 .ret a w):=fun a w hq => xR HO2 (xR HO3 (xR HO4 (xR HO5 (xR HO6 (xR HO7 (xR HO0 (xR HOT hq)))))))
 have HP1 : Hid (∀ c a w,_ → Q2 (.panic c) a w):=fun c a w hq => xP HO2 (xP HO3 (xP HO4 (xP HO5 (xP HO6 (xP HO7 (xP HO0 (xP HOT hq)))))))
 have HZ1 : Hid (∀ a w,KT a w → Q2 (.exit 0) a w):=fun a w hk => xZ HO2 0 (xZ HO3 0 (xZ HO4 0 (xZ HO5 0 (xZ HO6 0 (xZ HO7 0 (HE0.out a w (HNT.out a w hk)))))))
 have HZx : Hid (∀ a w,KT a w → Q1 (.exit 0) a w):=fun a w hk => xZ HO1 0 (xZ HO2 0 (xZ HO3 0 (xZ HO4 0 (xZ HO5 0 (xZ HO6 0 (xZ HO7 0 (HE0.out a w (HNT.out a w hk))))))))
 clear HE0 HO0 HE7 HO7 HE6 HO6 HE5 HO5 HE4 HO4 HE3 HO3 HE2 HO2 HE1 HO1 HN0 HNT
 refine wp_seq_k fun Kx hKx => ?_
 have HKx:=ζ hKx
 clear hKx
 refine wp_seq_k fun Kr hKr => ?_
 have HKr:=ζ hKr
 clear hKr
 go_wp2
 refine HKr.out _ _ ?_
 clear HKr Kr
 refine wp_seq_k fun Kr hKr => ?_
 have HKr:=ζ hKr
 clear hKr
 go_wp2
 refine HX2.out _ _ ?_
 refine HKb2.out _ _ ?_
 have xa:=HRg.out X _ r HM.out hr
 have xb:=HRg.out X _ q HM.out hq
 obtain ⟨va,hva⟩ : ∃ va,reg t k (r : Int) = va:=⟨_,rfl⟩
 obtain ⟨vb,hvb⟩ : ∃ vb,reg t k (q : Int) = vb:=⟨_,rfl⟩
 rw [hva] at xa
 rw [hvb] at xb
 rw [hva,hvb] at HF
 obtain ⟨vw,hvw⟩ : ∃ vw,IntKind.i64.wrap (va + vb) = vw:=⟨_,rfl⟩
 rw [hvw] at HF
 clear hva hvb
 refine wp_seq_k fun Kq hKq => ?_
 have HKq:=ζ hKq
 clear hKq
 refine wp_region_noPanic ?_
 refine RG.wp_region_L (fun Z => Below X.heap.size X Z) (fun Z => True) [18] (by kernel_rfl) ?_
 refine RG.wpL_any fun Yz15 hY => ?_
 have HBz15 : Hid (Below X.heap.size X Yz15):=by rw [hY];exact below_drewN (Below.refl _ _) 1
 clear hY
 refine RG.wpL_take (fuel:=1) (a':=?Az15) [0,1,2,3,4,5,6,7,8,9,10,11,12,13,14,15,16,17] (by kernel_rfl) (by kernel_rfl) (fun _ _ _ _ _ h => h) trivial (fun _ => HBz15.out) ?rz15 ?_
 case rz15 =>
  iterate 2
   refine RG.rW ?_ (fun Z hT => ?_) ?_
   rotate_left
   ·go_simp
    rfl
   simp only [Act.put,lA,lB,lC,lD,lE,lF]
  refine RG.RunsIf.strong (v:=.int .i64 (r : Int)) (by rfl) (by kernel_rfl) (by rfl) (fun Z hT hS => ?_) ?_
  ·have y1:=keepC hS z1;have y2:=keepC hS z2;have y3:=keepC hS xa;have y4:=keepC hS xb
   go_simp
  simp only [Act.put,lA,lB,lC,lD,lE,lF]
  iterate 3
   refine RG.rW ?_ (fun Z hT => ?_) ?_
   rotate_left
   ·go_simp
    rfl
   simp only [Act.put,lA,lB,lC,lD,lE,lF]
  refine RG.RunsIf.strong (v:=.int .i64 va) (by rfl) (by kernel_rfl) (by rfl) (fun Z hT hS => ?_) ?_
  ·have y1:=keepC hS z1;have y2:=keepC hS z2;have y3:=keepC hS xa;have y4:=keepC hS xb
   go_simp
  simp only [Act.put,lA,lB,lC,lD,lE,lF]
  iterate 2
   refine RG.rW ?_ (fun Z hT => ?_) ?_
   rotate_left
   ·go_simp
    rfl
   simp only [Act.put,lA,lB,lC,lD,lE,lF]
  refine RG.RunsIf.strong (v:=.int .i64 (q : Int)) (by rfl) (by kernel_rfl) (by rfl) (fun Z hT hS => ?_) ?_
  ·have y1:=keepC hS z1;have y2:=keepC hS z2;have y3:=keepC hS xa;have y4:=keepC hS xb
   go_simp
  simp only [Act.put,lA,lB,lC,lD,lE,lF]
  iterate 3
   refine RG.rW ?_ (fun Z hT => ?_) ?_
   rotate_left
   ·go_simp
    rfl
   simp only [Act.put,lA,lB,lC,lD,lE,lF]
  refine RG.RunsIf.strong (v:=.int .i64 vb) (by rfl) (by kernel_rfl) (by rfl) (fun Z hT hS => ?_) ?_
  ·have y1:=keepC hS z1;have y2:=keepC hS z2;have y3:=keepC hS xa;have y4:=keepC hS xb
   go_simp
  simp only [Act.put,lA,lB,lC,lD,lE,lF]
  refine RG.RunsIf.strong (v:=.int .i64 vw) (by rfl) (by kernel_rfl) (by rfl) (fun Z hT hS => ?_) ?_
  ·have y1:=keepC hS z1;have y2:=keepC hS z2;have y3:=keepC hS xa;have y4:=keepC hS xb
   go_simp
  simp only [Act.put,lA,lB,lC,lD,lE,lF]
  iterate 3
   refine RG.rW ?_ (fun Z hT => ?_) ?_
   rotate_left
   ·go_simp
    rfl
   simp only [Act.put,lA,lB,lC,lD,lE,lF]
  exact RG.RunsIf.nil
 have HMq:=ζ (HM.out.below HBz15.out)
 have cz:=keepC HBz15.out xa
 have fz:=HRf.out Yz15 _ (2 + r) HMq.out
 refine RG.wpL_late (i:=18) (by kernel_rfl) (by rfl) (by rfl) (by kernel_rfl) (fun KX hK => ?_)
 have HK:=ζ hK
 clear hK
 go_simp
 refine HK.out _ _ trivial ?_
 clear HK KX cz fz
 refine RG.wpL_done (by kernel_rfl) ?_ _
 refine NoPanic.normal ?_
 have HM2:=ζ (HSr.out _ _ r vw HMq.out hr)
 refine HKq.out _ _ ?_
 go_wp2
 refine HZ2.out _ _ ?_
 refine HKT.out _ _ ?_
 have xat:=HAT.out _ _ _ HM2.out (.inr ⟨_,_,rfl⟩) rfl
 go_wp2
 rw [HPo.out]
 exact DoQ.ok_ HF.out ⟨rfl,rfl,rfl,rfl,rfl⟩ rfl HM2.out
theorem pdo3 {o : World} {g : Nat} {s : Syst} {pa : Option Addr} {pc : Nat} {t : St} {m : PV} (k p : Nat) (r q : Nat) (a2 : Int) (eb ecap : Nat) (w : World) (h : PM o w g s pa pc { t with evs:=t.evs ++ [⟨(k : Int),3,0,0,false⟩] } m) (ho : Mc.Ok s) (hg : Mc.Good s t) (hk : k < t.rns.length) (hin : Mc.ins s t k = ⟨3,(r : Int),(q : Int),a2⟩) (hpo : (Mc.rn t k).pos = (p : Int)) (hat : aT s (Mc.rn t k) = (p : Int)) (hp1 : p ≤ 256) (hr : r < 8) (hq : q < 8) (he : m.ev = .slice (some ⟨eb,0,none⟩) (t.evs.length + 1) ecap) :
  Calls Try.prog 42 #[.pointer (some ⟨g,0,none⟩),.pointer (some ⟨m.ps.getD k 0,0,none⟩),.agg #[.int .i64 3,.int .i64 (r : Int),.int .i64 (q : Int),.int .i64 a2],.pointer (some ⟨eb,t.evs.length * 5,none⟩)] w (DoQ o g s pa pc t m k):=by
 obtain ⟨POST,hP⟩ : ∃ P,P = DoQ o g s pa pc t m k:=⟨_,rfl⟩
 have HPo:=ζ hP
 rw [← hP]
 clear hP
 have h8:=(hg.gr k hk).rl
 have hA0 : Below w.heap.size w (w.alloc (.cells #[.int .i64 3,.int .i64 (r : Int),.int .i64 (q : Int),.int .i64 a2] 68)):=(Below.refl _ _).alloc (Nat.le_refl _) _
 have NI0 : (w.alloc (.cells #[.int .i64 3,.int .i64 (r : Int),.int .i64 (q : Int),.int .i64 a2] 68)).heap[w.heap.size]? = some (.cells #[.int .i64 3,.int .i64 (r : Int),.int .i64 (q : Int),.int .i64 a2] 68 (0,0)):=heap_alloc_new w _
 have HM:=ζ (h.below hA0)
 have HI:=ζ NI0
 have HE:=ζ he
 have H8:=ζ h8
 have HKk:=ζ hk
 have HIn:=ζ hin
 have HG:=ζ hg
 have HOk:=ζ ho
 have HAT : Hid (∀ (u : St) (W : World) (m2 : PV),PM o W g s pa pc u m2 → (u.rns = t.rns ∨ ∃ r x,u.rns = Mc.setR t k r x) → m2.ps = m.ps → W.cell? ⟨m.ps.getD k 0,1,none⟩ = some (.int .i64 (p : Int))):=fun u W m2 hW hu hp => by
  have hl : k < u.rns.length:=by rcases hu with e | ⟨r,x,e⟩ <;> rw [e] <;> (try rw [setR_len]) <;> exact hk
  have h1:=(hW.at1 k hl).1
  rw [hp] at h1;rw [h1,← hat];unfold Mc.rn aT
  rcases hu with e | ⟨r,x,e⟩
  ·rw [e]
  ·rw [e]
   unfold Mc.setR
   rw [rn_set t k k _ hk,if_pos rfl];rfl
 have HRg : Hid (∀ (W : World) (e : Ev) (r : Nat),PM o W g s pa pc { t with evs:=t.evs ++ [e] } m → r < 8 → W.cell? ⟨m.ps.getD k 0,2 + r,none⟩ = some (.int .i64 (reg t k (r : Int)))):=fun W e r hW hr => hW.reg1 k hk r hr
 have HRf : Hid (∀ (W : World) (e : Ev) (j : Nat),PM o W g s pa pc { t with evs:=t.evs ++ [e] } m → W.frozen? ⟨m.ps.getD k 0,j,none⟩ = false):=fun W e j hW => hW.rfz k hk j
 have HSr : Hid (∀ (W : World) (e : Ev) (r : Nat) (x : Int),PM o W g s pa pc { t with evs:=t.evs ++ [e] } m → r < 8 → PM o (W.setCell ⟨m.ps.getD k 0,2 + r,none⟩ (.int .i64 x)) g s pa pc { t with rns:=Mc.setR t k (r : Int) x,evs:=t.evs ++ [e] } m):=fun W e r x hW hr => hW.setReg k hk r hr h8 x
 have ep : IntKind.i64.wrap ((p : Int) + 1) = (p : Int) + 1:=by rw [IntKind.wrap_i64];omega
 have HFt : Hid (reg t k (r : Int) < reg t k (q : Int) → _):=fun hl => by
  have hF_:=F3t (s:=s) (t:=t) (k:=k) (by rw [hin]) (by rw [hin];exact hl)
  simp only [hin,hpo,Int.toNat_natCast] at hF_
  exact hF_
 have HFf : Hid (¬ reg t k (r : Int) < reg t k (q : Int) → _):=fun hl => by
  have hF_:=F3f (s:=s) (t:=t) (k:=k) (by rw [hin]) (by rw [hin];exact hl)
  simp only [hin,hpo,Int.toNat_natCast] at hF_
  exact hF_
 have r1 : (r : Int) < 8:=by omega
 have rr0 : (0 : Int) ≤ (r : Int):=by omega
 have q1 : (q : Int) < 8:=by omega
 have qq0 : (0 : Int) ≤ (q : Int):=by omega
 obtain ⟨pk,hpk⟩ : ∃ pk,m.ps.getD k 0 = pk:=⟨_,rfl⟩
 have HPK:=ζ hpk
 rw [hpk] at HRg HRf HSr HAT ⊢
 obtain ⟨el,hel⟩ : ∃ el,t.evs.length = el:=⟨_,rfl⟩
 have HEL:=ζ hel
 rw [hel] at ⊢
 clear h hA0 NI0 he h8 hin hpo hat hg ho hk hpk hel hp1
 go_enter Try.func42,Try.ntmps42
 refine wp_seq_k fun K0 hK0 => ?_
 have HK0:=ζ hK0
 clear hK0
 go_wp2
 refine HK0.out _ _ ?_
 clear HK0 K0
 generalize w.alloc _ = X at *
 generalize w.heap.size = gi at *
 obtain ⟨z0,z1,z2,z3⟩:=cellsY4 HI.out
 refine wp_seq_q fun KT QT hKT hNT hOT => ?_
 have HKT:=ζ hKT
 have HNT:=ζ hNT
 have HOT:=ζ hOT
 clear hKT hNT hOT
 refine wp_seq_k fun K0 hK0 => ?_
 have HK0:=ζ hK0
 clear hK0
 go_wp2
 refine HK0.out _ _ ?_
 clear HK0 K0
 refine wp_block_q fun Q0 hN0 hE0 hO0 => ?_
 have HN0:=ζ hN0
 have HE0:=ζ hE0
 have HO0:=ζ hO0
 clear hN0 hE0 hO0
 refine wp_seq_block_q fun Kb7 Q7 hKb7 hN7 hE7 hO7 => ?_
 have HKb7:=ζ hKb7
 have HN7:=ζ hN7
 have HE7:=ζ hE7
 have HO7:=ζ hO7
 clear hKb7 hN7 hE7 hO7
 refine wp_seq_block_q fun Kb6 Q6 hKb6 hN6 hE6 hO6 => ?_
 have HKb6:=ζ hKb6
 have HN6:=ζ hN6
 have HE6:=ζ hE6
 have HO6:=ζ hO6
 clear hKb6 hN6 hE6 hO6
 refine wp_seq_block_q fun Kb5 Q5 hKb5 hN5 hE5 hO5 => ?_
 have HKb5:=ζ hKb5
 have HN5:=ζ hN5
 have HE5:=ζ hE5
 have HO5:=ζ hO5
 clear hKb5 hN5 hE5 hO5
 refine wp_seq_block_q fun Kb4 Q4 hKb4 hN4 hE4 hO4 => ?_
 have HKb4:=ζ hKb4
 have HN4:=ζ hN4
 have HE4:=ζ hE4
 have HO4:=ζ hO4
 clear hKb4 hN4 hE4 hO4
 refine wp_seq_block_q fun Kb3 Q3 hKb3 hN3 hE3 hO3 => ?_
 have HKb3:=ζ hKb3
 have HN3:=ζ hN3
 have HE3:=ζ hE3
 have HO3:=ζ hO3
 clear hKb3 hN3 hE3 hO3
 refine wp_seq_block_q fun Kb2 Q2 hKb2 hN2 hE2 hO2 => ?_
 have HKb2:=ζ hKb2
 have HN2:=ζ hN2
 have HE2:=ζ hE2
 have HO2:=ζ hO2
 clear hKb2 hN2 hE2 hO2
 refine wp_seq_block_q fun Kb1 Q1 hKb1 hN1 hE1 hO1 => ?_
 have HKb1:=ζ hKb1
 have HN1:=ζ hN1
 have HE1:=ζ hE1
 have HO1:=ζ hO1
 clear hKb1 hN1 hE1 hO1
 have HX7 : Hid (∀ a w,Kb7 a w → Q1 (.exit 7) a w):=fun a w hk => xZ HO1 7 (xZ HO2 7 (xZ HO3 7 (xZ HO4 7 (xZ HO5 7 (xZ HO6 7 (HE7.out a w hk))))))
 have HR7 : Hid (∀ a w,_ → Q0 .ret a w):=fun a w hq => xR HO0 (xR HOT hq)
 have HP7 : Hid (∀ c a w,_ → Q0 (.panic c) a w):=fun c a w hq => xP HO0 (xP HOT hq)
 have HZ7 : Hid (∀ a w,KT a w → Q0 (.exit 0) a w):=fun a w hk => HE0.out a w (HNT.out a w hk)
 have HX6 : Hid (∀ a w,Kb6 a w → Q1 (.exit 6) a w):=fun a w hk => xZ HO1 6 (xZ HO2 6 (xZ HO3 6 (xZ HO4 6 (xZ HO5 6 (HE6.out a w hk)))))
 have HR6 : Hid (∀ a w,_ → Q7 .ret a w):=fun a w hq => xR HO7 (xR HO0 (xR HOT hq))
 have HP6 : Hid (∀ c a w,_ → Q7 (.panic c) a w):=fun c a w hq => xP HO7 (xP HO0 (xP HOT hq))
 have HZ6 : Hid (∀ a w,KT a w → Q7 (.exit 0) a w):=fun a w hk => xZ HO7 0 (HE0.out a w (HNT.out a w hk))
 have HX5 : Hid (∀ a w,Kb5 a w → Q1 (.exit 5) a w):=fun a w hk => xZ HO1 5 (xZ HO2 5 (xZ HO3 5 (xZ HO4 5 (HE5.out a w hk))))
 have HR5 : Hid (∀ a w,_ → Q6 .ret a w):=fun a w hq => xR HO6 (xR HO7 (xR HO0 (xR HOT hq)))
 have HP5 : Hid (∀ c a w,_ → Q6 (.panic c) a w):=fun c a w hq => xP HO6 (xP HO7 (xP HO0 (xP HOT hq)))
 have HZ5 : Hid (∀ a w,KT a w → Q6 (.exit 0) a w):=fun a w hk => xZ HO6 0 (xZ HO7 0 (HE0.out a w (HNT.out a w hk)))
 have HX4 : Hid (∀ a w,Kb4 a w → Q1 (.exit 4) a w):=fun a w hk => xZ HO1 4 (xZ HO2 4 (xZ HO3 4 (HE4.out a w hk)))
 have HR4 : Hid (∀ a w,_ → Q5 .ret a w):=fun a w hq => xR HO5 (xR HO6 (xR HO7 (xR HO0 (xR HOT hq))))
 have HP4 : Hid (∀ c a w,_ → Q5 (.panic c) a w):=fun c a w hq => xP HO5 (xP HO6 (xP HO7 (xP HO0 (xP HOT hq))))
 have HZ4 : Hid (∀ a w,KT a w → Q5 (.exit 0) a w):=fun a w hk => xZ HO5 0 (xZ HO6 0 (xZ HO7 0 (HE0.out a w (HNT.out a w hk))))
 have HX3 : Hid (∀ a w,Kb3 a w → Q1 (.exit 3) a w):=fun a w hk => xZ HO1 3 (xZ HO2 3 (HE3.out a w hk))
 have HR3 : Hid (∀ a w,_ → Q4 .ret a w):=fun a w hq => xR HO4 (xR HO5 (xR HO6 (xR HO7 (xR HO0 (xR HOT hq)))))
 have HP3 : Hid (∀ c a w,_ → Q4 (.panic c) a w):=fun c a w hq => xP HO4 (xP HO5 (xP HO6 (xP HO7 (xP HO0 (xP HOT hq)))))
 have HZ3 : Hid (∀ a w,KT a w → Q4 (.exit 0) a w):=fun a w hk => xZ HO4 0 (xZ HO5 0 (xZ HO6 0 (xZ HO7 0 (HE0.out a w (HNT.out a w hk)))))
 have HX2 : Hid (∀ a w,Kb2 a w → Q1 (.exit 2) a w):=fun a w hk => xZ HO1 2 (HE2.out a w hk)
 have HR2 : Hid (∀ a w,_ → Q3 .ret a w):=fun a w hq => xR HO3 (xR HO4 (xR HO5 (xR HO6 (xR HO7 (xR HO0 (xR HOT hq))))))
 have HP2 : Hid (∀ c a w,_ → Q3 (.panic c) a w):=fun c a w hq => xP HO3 (xP HO4 (xP HO5 (xP HO6 (xP HO7 (xP HO0 (xP HOT hq))))))
 have HZ2 : Hid (∀ a w,KT a w → Q3 (.exit 0) a w):=fun a w hk => xZ HO3 0 (xZ HO4 0 (xZ HO5 0 (xZ HO6 0 (xZ HO7 0 (HE0.out a w (HNT.out a w hk))))))
 have HX1 : Hid (∀ a w,Kb1 a w → Q1 (.exit 1) a w):=fun a w hk => HE1.out a w hk
 have HR1 : Hid (∀ a w,_ → Q2 .ret a w):=fun a w hq => xR HO2 (xR HO3 (xR HO4 (xR HO5 (xR HO6 (xR HO7 (xR HO0 (xR HOT hq)))))))
 have HP1 : Hid (∀ c a w,_ → Q2 (.panic c) a w):=fun c a w hq => xP HO2 (xP HO3 (xP HO4 (xP HO5 (xP HO6 (xP HO7 (xP HO0 (xP HOT hq)))))))
 have HZ1 : Hid (∀ a w,KT a w → Q2 (.exit 0) a w):=fun a w hk => xZ HO2 0 (xZ HO3 0 (xZ HO4 0 (xZ HO5 0 (xZ HO6 0 (xZ HO7 0 (HE0.out a w (HNT.out a w hk)))))))
 have HZx : Hid (∀ a w,KT a w → Q1 (.exit 0) a w):=fun a w hk => xZ HO1 0 (xZ HO2 0 (xZ HO3 0 (xZ HO4 0 (xZ HO5 0 (xZ HO6 0 (xZ HO7 0 (HE0.out a w (HNT.out a w hk))))))))
 clear HE0 HO0 HE7 HO7 HE6 HO6 HE5 HO5 HE4 HO4 HE3 HO3 HE2 HO2 HE1 HO1 HN0 HNT
 refine wp_seq_k fun Kx hKx => ?_
 have HKx:=ζ hKx
 clear hKx
 refine wp_seq_k fun Kr hKr => ?_
 have HKr:=ζ hKr
 clear hKr
 go_wp2
 refine HKr.out _ _ ?_
 clear HKr Kr
 refine wp_seq_k fun Kr hKr => ?_
 have HKr:=ζ hKr
 clear hKr
 go_wp2
 refine HKr.out _ _ ?_
 clear HKr Kr
 refine wp_seq_k fun Kr hKr => ?_
 have HKr:=ζ hKr
 clear hKr
 go_wp2
 refine HX3.out _ _ ?_
 refine HKb3.out _ _ ?_
 have xa:=HRg.out X _ r HM.out hr
 have xb:=HRg.out X _ q HM.out hq
 obtain ⟨va,hva⟩ : ∃ va,reg t k (r : Int) = va:=⟨_,rfl⟩
 obtain ⟨vb,hvb⟩ : ∃ vb,reg t k (q : Int) = vb:=⟨_,rfl⟩
 rw [hva] at xa
 rw [hvb] at xb
 rw [hva,hvb] at HFt HFf
 clear hva hvb
 by_cases hlt : va < vb
 ·have HF:=ζ (HFt.out hlt)
  have kl : ¬ vb ≤ va:=by omega
  clear HFt HFf hlt;go_wp2;go_quiet (fail)
  have HMy:=ζ (HM.out.below (below_drewN (Below.refl X.heap.size X) nq))
  have HIy:=ζ (blk_keep HI.out (below_drewN (Below.refl X.heap.size X) nq))
  clear xa xb z0 z1 z2 z3 HM HI;generalize X.drewN nq = X2 at *;obtain ⟨z0,z1,z2,z3⟩:=cellsY4 HIy.out
  go_wp2;refine HN4.out _ _ ?_;refine HKb4.out _ _ ?_;go_wp2;refine HR4.out _ _ ?_;refine bodyPost_ret (v:=.int .i64 a2) (results_tmp Try.results42 _ _ _) rfl ?_
  rw [HPo.out];exact DoQ.ok_ HF.out ⟨rfl,rfl,rfl,rfl,rfl⟩ rfl HMy.out
 ·have HF:=ζ (HFf.out (by omega))
  have kl : vb ≤ va:=by omega
  clear HFt HFf hlt;go_wp2;go_quiet (fail)
  have HMy:=ζ (HM.out.below (below_drewN (Below.refl X.heap.size X) nq))
  clear xa xb z0 z1 z2 z3 HM HI;generalize X.drewN nq = X2 at *;go_wp2;refine HZ3.out _ _ ?_;refine HKT.out _ _ ?_;have xat:=HAT.out _ _ _ HMy.out (.inl rfl) rfl
  go_wp2;rw [HPo.out];exact DoQ.ok_ HF.out ⟨rfl,rfl,rfl,rfl,rfl⟩ rfl HMy.out
theorem pdo4 {o : World} {g : Nat} {s : Syst} {pa : Option Addr} {pc : Nat} {t : St} {m : PV} (k p : Nat) (a0 a1 a2 : Int) (eb ecap : Nat) (w : World) (h : PM o w g s pa pc { t with evs:=t.evs ++ [⟨(k : Int),4,0,0,false⟩] } m) (ho : Mc.Ok s) (hg : Mc.Good s t) (hk : k < t.rns.length) (hin : Mc.ins s t k = ⟨4,a0,a1,a2⟩) (hpo : (Mc.rn t k).pos = (p : Int)) (hat : aT s (Mc.rn t k) = (p : Int)) (hp1 : p ≤ 256)  (he : m.ev = .slice (some ⟨eb,0,none⟩) (t.evs.length + 1) ecap) :
  Calls Try.prog 42 #[.pointer (some ⟨g,0,none⟩),.pointer (some ⟨m.ps.getD k 0,0,none⟩),.agg #[.int .i64 4,.int .i64 a0,.int .i64 a1,.int .i64 a2],.pointer (some ⟨eb,t.evs.length * 5,none⟩)] w (DoQ o g s pa pc t m k):=by
 obtain ⟨POST,hP⟩ : ∃ P,P = DoQ o g s pa pc t m k:=⟨_,rfl⟩
 have HPo:=ζ hP
 rw [← hP]
 clear hP
 have h8:=(hg.gr k hk).rl
 have hA0 : Below w.heap.size w (w.alloc (.cells #[.int .i64 4,.int .i64 a0,.int .i64 a1,.int .i64 a2] 68)):=(Below.refl _ _).alloc (Nat.le_refl _) _
 have NI0 : (w.alloc (.cells #[.int .i64 4,.int .i64 a0,.int .i64 a1,.int .i64 a2] 68)).heap[w.heap.size]? = some (.cells #[.int .i64 4,.int .i64 a0,.int .i64 a1,.int .i64 a2] 68 (0,0)):=heap_alloc_new w _
 have HM:=ζ (h.below hA0)
 have HI:=ζ NI0
 have HE:=ζ he
 have H8:=ζ h8
 have HKk:=ζ hk
 have HIn:=ζ hin
 have HG:=ζ hg
 have HOk:=ζ ho
 have HAT : Hid (∀ (u : St) (W : World) (m2 : PV),PM o W g s pa pc u m2 → (u.rns = t.rns ∨ ∃ r x,u.rns = Mc.setR t k r x) → m2.ps = m.ps → W.cell? ⟨m.ps.getD k 0,1,none⟩ = some (.int .i64 (p : Int))):=fun u W m2 hW hu hp => by
  have hl : k < u.rns.length:=by rcases hu with e | ⟨r,x,e⟩ <;> rw [e] <;> (try rw [setR_len]) <;> exact hk
  have h1:=(hW.at1 k hl).1
  rw [hp] at h1;rw [h1,← hat];unfold Mc.rn aT
  rcases hu with e | ⟨r,x,e⟩
  ·rw [e]
  ·rw [e]
   unfold Mc.setR
   rw [rn_set t k k _ hk,if_pos rfl];rfl
 have HRg : Hid (∀ (W : World) (e : Ev) (r : Nat),PM o W g s pa pc { t with evs:=t.evs ++ [e] } m → r < 8 → W.cell? ⟨m.ps.getD k 0,2 + r,none⟩ = some (.int .i64 (reg t k (r : Int)))):=fun W e r hW hr => hW.reg1 k hk r hr
 have HRf : Hid (∀ (W : World) (e : Ev) (j : Nat),PM o W g s pa pc { t with evs:=t.evs ++ [e] } m → W.frozen? ⟨m.ps.getD k 0,j,none⟩ = false):=fun W e j hW => hW.rfz k hk j
 have HSr : Hid (∀ (W : World) (e : Ev) (r : Nat) (x : Int),PM o W g s pa pc { t with evs:=t.evs ++ [e] } m → r < 8 → PM o (W.setCell ⟨m.ps.getD k 0,2 + r,none⟩ (.int .i64 x)) g s pa pc { t with rns:=Mc.setR t k (r : Int) x,evs:=t.evs ++ [e] } m):=fun W e r x hW hr => hW.setReg k hk r hr h8 x
 have ep : IntKind.i64.wrap ((p : Int) + 1) = (p : Int) + 1:=by rw [IntKind.wrap_i64];omega
 have hF_:=F4 (s:=s) (t:=t) (k:=k) (by rw [hin])
 try simp only [hin,hpo,Int.toNat_natCast] at hF_
 have HF:=ζ hF_
 clear hF_
 obtain ⟨pk,hpk⟩ : ∃ pk,m.ps.getD k 0 = pk:=⟨_,rfl⟩
 have HPK:=ζ hpk
 rw [hpk] at HRg HRf HSr HAT ⊢
 obtain ⟨el,hel⟩ : ∃ el,t.evs.length = el:=⟨_,rfl⟩
 have HEL:=ζ hel
 rw [hel] at ⊢
 clear h hA0 NI0 he h8 hin hpo hat hg ho hk hpk hel hp1
 go_enter Try.func42,Try.ntmps42
 refine wp_seq_k fun K0 hK0 => ?_
 have HK0:=ζ hK0
 clear hK0
 go_wp2
 refine HK0.out _ _ ?_
 clear HK0 K0
 generalize w.alloc _ = X at *
 generalize w.heap.size = gi at *
 obtain ⟨z0,z1,z2,z3⟩:=cellsY4 HI.out
 refine wp_seq_q fun KT QT hKT hNT hOT => ?_
 have HKT:=ζ hKT
 have HNT:=ζ hNT
 have HOT:=ζ hOT
 clear hKT hNT hOT
 refine wp_seq_k fun K0 hK0 => ?_
 have HK0:=ζ hK0
 clear hK0
 go_wp2
 refine HK0.out _ _ ?_
 clear HK0 K0
 refine wp_block_q fun Q0 hN0 hE0 hO0 => ?_
 have HN0:=ζ hN0
 have HE0:=ζ hE0
 have HO0:=ζ hO0
 clear hN0 hE0 hO0
 refine wp_seq_block_q fun Kb7 Q7 hKb7 hN7 hE7 hO7 => ?_
 have HKb7:=ζ hKb7
 have HN7:=ζ hN7
 have HE7:=ζ hE7
 have HO7:=ζ hO7
 clear hKb7 hN7 hE7 hO7
 refine wp_seq_block_q fun Kb6 Q6 hKb6 hN6 hE6 hO6 => ?_
 have HKb6:=ζ hKb6
 have HN6:=ζ hN6
 have HE6:=ζ hE6
 have HO6:=ζ hO6
 clear hKb6 hN6 hE6 hO6
 refine wp_seq_block_q fun Kb5 Q5 hKb5 hN5 hE5 hO5 => ?_
 have HKb5:=ζ hKb5
 have HN5:=ζ hN5
 have HE5:=ζ hE5
 have HO5:=ζ hO5
 clear hKb5 hN5 hE5 hO5
 refine wp_seq_block_q fun Kb4 Q4 hKb4 hN4 hE4 hO4 => ?_
 have HKb4:=ζ hKb4
 have HN4:=ζ hN4
 have HE4:=ζ hE4
 have HO4:=ζ hO4
 clear hKb4 hN4 hE4 hO4
 refine wp_seq_block_q fun Kb3 Q3 hKb3 hN3 hE3 hO3 => ?_
 have HKb3:=ζ hKb3
 have HN3:=ζ hN3
 have HE3:=ζ hE3
 have HO3:=ζ hO3
 clear hKb3 hN3 hE3 hO3
 refine wp_seq_block_q fun Kb2 Q2 hKb2 hN2 hE2 hO2 => ?_
 have HKb2:=ζ hKb2
 have HN2:=ζ hN2
 have HE2:=ζ hE2
 have HO2:=ζ hO2
 clear hKb2 hN2 hE2 hO2
 refine wp_seq_block_q fun Kb1 Q1 hKb1 hN1 hE1 hO1 => ?_
 have HKb1:=ζ hKb1
 have HN1:=ζ hN1
 have HE1:=ζ hE1
 have HO1:=ζ hO1
 clear hKb1 hN1 hE1 hO1
 have HX7 : Hid (∀ a w,Kb7 a w → Q1 (.exit 7) a w):=fun a w hk => xZ HO1 7 (xZ HO2 7 (xZ HO3 7 (xZ HO4 7 (xZ HO5 7 (xZ HO6 7 (HE7.out a w hk))))))
 have HR7 : Hid (∀ a w,_ → Q0 .ret a w):=fun a w hq => xR HO0 (xR HOT hq)
 have HP7 : Hid (∀ c a w,_ → Q0 (.panic c) a w):=fun c a w hq => xP HO0 (xP HOT hq)
 have HZ7 : Hid (∀ a w,KT a w → Q0 (.exit 0) a w):=fun a w hk => HE0.out a w (HNT.out a w hk)
 have HX6 : Hid (∀ a w,Kb6 a w → Q1 (.exit 6) a w):=fun a w hk => xZ HO1 6 (xZ HO2 6 (xZ HO3 6 (xZ HO4 6 (xZ HO5 6 (HE6.out a w hk)))))
 have HR6 : Hid (∀ a w,_ → Q7 .ret a w):=fun a w hq => xR HO7 (xR HO0 (xR HOT hq))
 have HP6 : Hid (∀ c a w,_ → Q7 (.panic c) a w):=fun c a w hq => xP HO7 (xP HO0 (xP HOT hq))
 have HZ6 : Hid (∀ a w,KT a w → Q7 (.exit 0) a w):=fun a w hk => xZ HO7 0 (HE0.out a w (HNT.out a w hk))
 have HX5 : Hid (∀ a w,Kb5 a w → Q1 (.exit 5) a w):=fun a w hk => xZ HO1 5 (xZ HO2 5 (xZ HO3 5 (xZ HO4 5 (HE5.out a w hk))))
 have HR5 : Hid (∀ a w,_ → Q6 .ret a w):=fun a w hq => xR HO6 (xR HO7 (xR HO0 (xR HOT hq)))
 have HP5 : Hid (∀ c a w,_ → Q6 (.panic c) a w):=fun c a w hq => xP HO6 (xP HO7 (xP HO0 (xP HOT hq)))
 have HZ5 : Hid (∀ a w,KT a w → Q6 (.exit 0) a w):=fun a w hk => xZ HO6 0 (xZ HO7 0 (HE0.out a w (HNT.out a w hk)))
 have HX4 : Hid (∀ a w,Kb4 a w → Q1 (.exit 4) a w):=fun a w hk => xZ HO1 4 (xZ HO2 4 (xZ HO3 4 (HE4.out a w hk)))
 have HR4 : Hid (∀ a w,_ → Q5 .ret a w):=fun a w hq => xR HO5 (xR HO6 (xR HO7 (xR HO0 (xR HOT hq))))
 have HP4 : Hid (∀ c a w,_ → Q5 (.panic c) a w):=fun c a w hq => xP HO5 (xP HO6 (xP HO7 (xP HO0 (xP HOT hq))))
 have HZ4 : Hid (∀ a w,KT a w → Q5 (.exit 0) a w):=fun a w hk => xZ HO5 0 (xZ HO6 0 (xZ HO7 0 (HE0.out a w (HNT.out a w hk))))
 have HX3 : Hid (∀ a w,Kb3 a w → Q1 (.exit 3) a w):=fun a w hk => xZ HO1 3 (xZ HO2 3 (HE3.out a w hk))
 have HR3 : Hid (∀ a w,_ → Q4 .ret a w):=fun a w hq => xR HO4 (xR HO5 (xR HO6 (xR HO7 (xR HO0 (xR HOT hq)))))
 have HP3 : Hid (∀ c a w,_ → Q4 (.panic c) a w):=fun c a w hq => xP HO4 (xP HO5 (xP HO6 (xP HO7 (xP HO0 (xP HOT hq)))))
 have HZ3 : Hid (∀ a w,KT a w → Q4 (.exit 0) a w):=fun a w hk => xZ HO4 0 (xZ HO5 0 (xZ HO6 0 (xZ HO7 0 (HE0.out a w (HNT.out a w hk)))))
 have HX2 : Hid (∀ a w,Kb2 a w → Q1 (.exit 2) a w):=fun a w hk => xZ HO1 2 (HE2.out a w hk)
 have HR2 : Hid (∀ a w,_ → Q3 .ret a w):=fun a w hq => xR HO3 (xR HO4 (xR HO5 (xR HO6 (xR HO7 (xR HO0 (xR HOT hq))))))
 have HP2 : Hid (∀ c a w,_ → Q3 (.panic c) a w):=fun c a w hq => xP HO3 (xP HO4 (xP HO5 (xP HO6 (xP HO7 (xP HO0 (xP HOT hq))))))
 have HZ2 : Hid (∀ a w,KT a w → Q3 (.exit 0) a w):=fun a w hk => xZ HO3 0 (xZ HO4 0 (xZ HO5 0 (xZ HO6 0 (xZ HO7 0 (HE0.out a w (HNT.out a w hk))))))
 have HX1 : Hid (∀ a w,Kb1 a w → Q1 (.exit 1) a w):=fun a w hk => HE1.out a w hk
 have HR1 : Hid (∀ a w,_ → Q2 .ret a w):=fun a w hq => xR HO2 (xR HO3 (xR HO4 (xR HO5 (xR HO6 (xR HO7 (xR HO0 (xR HOT hq)))))))
 have HP1 : Hid (∀ c a w,_ → Q2 (.panic c) a w):=fun c a w hq => xP HO2 (xP HO3 (xP HO4 (xP HO5 (xP HO6 (xP HO7 (xP HO0 (xP HOT hq)))))))
 have HZ1 : Hid (∀ a w,KT a w → Q2 (.exit 0) a w):=fun a w hk => xZ HO2 0 (xZ HO3 0 (xZ HO4 0 (xZ HO5 0 (xZ HO6 0 (xZ HO7 0 (HE0.out a w (HNT.out a w hk)))))))
 have HZx : Hid (∀ a w,KT a w → Q1 (.exit 0) a w):=fun a w hk => xZ HO1 0 (xZ HO2 0 (xZ HO3 0 (xZ HO4 0 (xZ HO5 0 (xZ HO6 0 (xZ HO7 0 (HE0.out a w (HNT.out a w hk))))))))
 clear HE0 HO0 HE7 HO7 HE6 HO6 HE5 HO5 HE4 HO4 HE3 HO3 HE2 HO2 HE1 HO1 HN0 HNT
 refine wp_seq_k fun Kx hKx => ?_
 have HKx:=ζ hKx
 clear hKx
 refine wp_seq_k fun Kr hKr => ?_
 have HKr:=ζ hKr
 clear hKr
 go_wp2
 refine HKr.out _ _ ?_
 clear HKr Kr
 refine wp_seq_k fun Kr hKr => ?_
 have HKr:=ζ hKr
 clear hKr
 go_wp2
 refine HKr.out _ _ ?_
 clear HKr Kr
 refine wp_seq_k fun Kr hKr => ?_
 have HKr:=ζ hKr
 clear hKr
 go_wp2
 refine HKr.out _ _ ?_
 clear HKr Kr
 refine wp_seq_k fun Kr hKr => ?_
 have HKr:=ζ hKr
 clear hKr
 go_wp2
 refine HX4.out _ _ ?_
 refine HKb4.out _ _ ?_
 go_wp2
 refine HR4.out _ _ ?_
 refine bodyPost_ret (v:=.int .i64 a2) (results_tmp Try.results42 _ _ _) rfl ?_
 rw [HPo.out]
 exact DoQ.ok_ HF.out ⟨rfl,rfl,rfl,rfl,rfl⟩ rfl HM.out
theorem pdo16 {o : World} {g : Nat} {s : Syst} {pa : Option Addr} {pc : Nat} {t : St} {m : PV} (k p : Nat) (a0 a1 a2 : Int) (eb ecap : Nat) (w : World) (h : PM o w g s pa pc { t with evs:=t.evs ++ [⟨(k : Int),16,0,0,false⟩] } m) (ho : Mc.Ok s) (hg : Mc.Good s t) (hk : k < t.rns.length) (hin : Mc.ins s t k = ⟨16,a0,a1,a2⟩) (hpo : (Mc.rn t k).pos = (p : Int)) (hat : aT s (Mc.rn t k) = (p : Int)) (hp1 : p ≤ 256)  (he : m.ev = .slice (some ⟨eb,0,none⟩) (t.evs.length + 1) ecap) :
  Calls Try.prog 42 #[.pointer (some ⟨g,0,none⟩),.pointer (some ⟨m.ps.getD k 0,0,none⟩),.agg #[.int .i64 16,.int .i64 a0,.int .i64 a1,.int .i64 a2],.pointer (some ⟨eb,t.evs.length * 5,none⟩)] w (DoQ o g s pa pc t m k):=by
 obtain ⟨POST,hP⟩ : ∃ P,P = DoQ o g s pa pc t m k:=⟨_,rfl⟩
 have HPo:=ζ hP
 rw [← hP]
 clear hP
 have h8:=(hg.gr k hk).rl
 have hA0 : Below w.heap.size w (w.alloc (.cells #[.int .i64 16,.int .i64 a0,.int .i64 a1,.int .i64 a2] 68)):=(Below.refl _ _).alloc (Nat.le_refl _) _
 have NI0 : (w.alloc (.cells #[.int .i64 16,.int .i64 a0,.int .i64 a1,.int .i64 a2] 68)).heap[w.heap.size]? = some (.cells #[.int .i64 16,.int .i64 a0,.int .i64 a1,.int .i64 a2] 68 (0,0)):=heap_alloc_new w _
 have HM:=ζ (h.below hA0)
 have HI:=ζ NI0
 have HE:=ζ he
 have H8:=ζ h8
 have HKk:=ζ hk
 have HIn:=ζ hin
 have HG:=ζ hg
 have HOk:=ζ ho
 have HAT : Hid (∀ (u : St) (W : World) (m2 : PV),PM o W g s pa pc u m2 → (u.rns = t.rns ∨ ∃ r x,u.rns = Mc.setR t k r x) → m2.ps = m.ps → W.cell? ⟨m.ps.getD k 0,1,none⟩ = some (.int .i64 (p : Int))):=fun u W m2 hW hu hp => by
  have hl : k < u.rns.length:=by rcases hu with e | ⟨r,x,e⟩ <;> rw [e] <;> (try rw [setR_len]) <;> exact hk
  have h1:=(hW.at1 k hl).1
  rw [hp] at h1;rw [h1,← hat];unfold Mc.rn aT
  rcases hu with e | ⟨r,x,e⟩
  ·rw [e]
  ·rw [e]
   unfold Mc.setR
   rw [rn_set t k k _ hk,if_pos rfl];rfl
 have HRg : Hid (∀ (W : World) (e : Ev) (r : Nat),PM o W g s pa pc { t with evs:=t.evs ++ [e] } m → r < 8 → W.cell? ⟨m.ps.getD k 0,2 + r,none⟩ = some (.int .i64 (reg t k (r : Int)))):=fun W e r hW hr => hW.reg1 k hk r hr
 have HRf : Hid (∀ (W : World) (e : Ev) (j : Nat),PM o W g s pa pc { t with evs:=t.evs ++ [e] } m → W.frozen? ⟨m.ps.getD k 0,j,none⟩ = false):=fun W e j hW => hW.rfz k hk j
 have HSr : Hid (∀ (W : World) (e : Ev) (r : Nat) (x : Int),PM o W g s pa pc { t with evs:=t.evs ++ [e] } m → r < 8 → PM o (W.setCell ⟨m.ps.getD k 0,2 + r,none⟩ (.int .i64 x)) g s pa pc { t with rns:=Mc.setR t k (r : Int) x,evs:=t.evs ++ [e] } m):=fun W e r x hW hr => hW.setReg k hk r hr h8 x
 have ep : IntKind.i64.wrap ((p : Int) + 1) = (p : Int) + 1:=by rw [IntKind.wrap_i64];omega
 have hF_:=F16 (s:=s) (t:=t) (k:=k) (by rw [hin])
 try simp only [hin,hpo,Int.toNat_natCast] at hF_
 have HF:=ζ hF_
 clear hF_
 obtain ⟨A,K_,eiv,_⟩:=HM.out.ivF0 hg k hk
 have xi : (w.alloc (.cells #[.int .i64 16,.int .i64 a0,.int .i64 a1,.int .i64 a2] 68)).cell? ⟨m.ps.getD k 0,0,none⟩ = some (.slice A (pg s (Mc.rn t k).prog).length K_):=by rw [← eiv];exact (HM.out.at1 k hk).2
 clear eiv
 obtain ⟨pk,hpk⟩ : ∃ pk,m.ps.getD k 0 = pk:=⟨_,rfl⟩
 have HPK:=ζ hpk
 rw [hpk] at HRg HRf HSr HAT xi ⊢
 obtain ⟨el,hel⟩ : ∃ el,t.evs.length = el:=⟨_,rfl⟩
 have HEL:=ζ hel
 rw [hel] at ⊢
 clear h hA0 NI0 he h8 hin hpo hat hg ho hk hpk hel hp1
 go_enter Try.func42,Try.ntmps42
 refine wp_seq_k fun K0 hK0 => ?_
 have HK0:=ζ hK0
 clear hK0
 go_wp2
 refine HK0.out _ _ ?_
 clear HK0 K0
 generalize w.alloc _ = X at *
 generalize w.heap.size = gi at *
 obtain ⟨z0,z1,z2,z3⟩:=cellsY4 HI.out
 refine wp_seq_q fun KT QT hKT hNT hOT => ?_
 have HKT:=ζ hKT
 have HNT:=ζ hNT
 have HOT:=ζ hOT
 clear hKT hNT hOT
 refine wp_seq_k fun K0 hK0 => ?_
 have HK0:=ζ hK0
 clear hK0
 go_wp2
 refine HK0.out _ _ ?_
 clear HK0 K0
 refine wp_block_q fun Q0 hN0 hE0 hO0 => ?_
 have HN0:=ζ hN0
 have HE0:=ζ hE0
 have HO0:=ζ hO0
 clear hN0 hE0 hO0
 refine wp_seq_block_q fun Kb7 Q7 hKb7 hN7 hE7 hO7 => ?_
 have HKb7:=ζ hKb7
 have HN7:=ζ hN7
 have HE7:=ζ hE7
 have HO7:=ζ hO7
 clear hKb7 hN7 hE7 hO7
 refine wp_seq_block_q fun Kb6 Q6 hKb6 hN6 hE6 hO6 => ?_
 have HKb6:=ζ hKb6
 have HN6:=ζ hN6
 have HE6:=ζ hE6
 have HO6:=ζ hO6
 clear hKb6 hN6 hE6 hO6
 refine wp_seq_block_q fun Kb5 Q5 hKb5 hN5 hE5 hO5 => ?_
 have HKb5:=ζ hKb5
 have HN5:=ζ hN5
 have HE5:=ζ hE5
 have HO5:=ζ hO5
 clear hKb5 hN5 hE5 hO5
 refine wp_seq_block_q fun Kb4 Q4 hKb4 hN4 hE4 hO4 => ?_
 have HKb4:=ζ hKb4
 have HN4:=ζ hN4
 have HE4:=ζ hE4
 have HO4:=ζ hO4
 clear hKb4 hN4 hE4 hO4
 refine wp_seq_block_q fun Kb3 Q3 hKb3 hN3 hE3 hO3 => ?_
 have HKb3:=ζ hKb3
 have HN3:=ζ hN3
 have HE3:=ζ hE3
 have HO3:=ζ hO3
 clear hKb3 hN3 hE3 hO3
 refine wp_seq_block_q fun Kb2 Q2 hKb2 hN2 hE2 hO2 => ?_
 have HKb2:=ζ hKb2
 have HN2:=ζ hN2
 have HE2:=ζ hE2
 have HO2:=ζ hO2
 clear hKb2 hN2 hE2 hO2
 refine wp_seq_block_q fun Kb1 Q1 hKb1 hN1 hE1 hO1 => ?_
 have HKb1:=ζ hKb1
 have HN1:=ζ hN1
 have HE1:=ζ hE1
 have HO1:=ζ hO1
 clear hKb1 hN1 hE1 hO1
 have HX7 : Hid (∀ a w,Kb7 a w → Q1 (.exit 7) a w):=fun a w hk => xZ HO1 7 (xZ HO2 7 (xZ HO3 7 (xZ HO4 7 (xZ HO5 7 (xZ HO6 7 (HE7.out a w hk))))))
 have HR7 : Hid (∀ a w,_ → Q0 .ret a w):=fun a w hq => xR HO0 (xR HOT hq)
 have HP7 : Hid (∀ c a w,_ → Q0 (.panic c) a w):=fun c a w hq => xP HO0 (xP HOT hq)
 have HZ7 : Hid (∀ a w,KT a w → Q0 (.exit 0) a w):=fun a w hk => HE0.out a w (HNT.out a w hk)
 have HX6 : Hid (∀ a w,Kb6 a w → Q1 (.exit 6) a w):=fun a w hk => xZ HO1 6 (xZ HO2 6 (xZ HO3 6 (xZ HO4 6 (xZ HO5 6 (HE6.out a w hk)))))
 have HR6 : Hid (∀ a w,_ → Q7 .ret a w):=fun a w hq => xR HO7 (xR HO0 (xR HOT hq))
 have HP6 : Hid (∀ c a w,_ → Q7 (.panic c) a w):=fun c a w hq => xP HO7 (xP HO0 (xP HOT hq))
 have HZ6 : Hid (∀ a w,KT a w → Q7 (.exit 0) a w):=fun a w hk => xZ HO7 0 (HE0.out a w (HNT.out a w hk))
 have HX5 : Hid (∀ a w,Kb5 a w → Q1 (.exit 5) a w):=fun a w hk => xZ HO1 5 (xZ HO2 5 (xZ HO3 5 (xZ HO4 5 (HE5.out a w hk))))
 have HR5 : Hid (∀ a w,_ → Q6 .ret a w):=fun a w hq => xR HO6 (xR HO7 (xR HO0 (xR HOT hq)))
 have HP5 : Hid (∀ c a w,_ → Q6 (.panic c) a w):=fun c a w hq => xP HO6 (xP HO7 (xP HO0 (xP HOT hq)))
 have HZ5 : Hid (∀ a w,KT a w → Q6 (.exit 0) a w):=fun a w hk => xZ HO6 0 (xZ HO7 0 (HE0.out a w (HNT.out a w hk)))
 have HX4 : Hid (∀ a w,Kb4 a w → Q1 (.exit 4) a w):=fun a w hk => xZ HO1 4 (xZ HO2 4 (xZ HO3 4 (HE4.out a w hk)))
 have HR4 : Hid (∀ a w,_ → Q5 .ret a w):=fun a w hq => xR HO5 (xR HO6 (xR HO7 (xR HO0 (xR HOT hq))))
 have HP4 : Hid (∀ c a w,_ → Q5 (.panic c) a w):=fun c a w hq => xP HO5 (xP HO6 (xP HO7 (xP HO0 (xP HOT hq))))
 have HZ4 : Hid (∀ a w,KT a w → Q5 (.exit 0) a w):=fun a w hk => xZ HO5 0 (xZ HO6 0 (xZ HO7 0 (HE0.out a w (HNT.out a w hk))))
 have HX3 : Hid (∀ a w,Kb3 a w → Q1 (.exit 3) a w):=fun a w hk => xZ HO1 3 (xZ HO2 3 (HE3.out a w hk))
 have HR3 : Hid (∀ a w,_ → Q4 .ret a w):=fun a w hq => xR HO4 (xR HO5 (xR HO6 (xR HO7 (xR HO0 (xR HOT hq)))))
 have HP3 : Hid (∀ c a w,_ → Q4 (.panic c) a w):=fun c a w hq => xP HO4 (xP HO5 (xP HO6 (xP HO7 (xP HO0 (xP HOT hq)))))
 have HZ3 : Hid (∀ a w,KT a w → Q4 (.exit 0) a w):=fun a w hk => xZ HO4 0 (xZ HO5 0 (xZ HO6 0 (xZ HO7 0 (HE0.out a w (HNT.out a w hk)))))
 have HX2 : Hid (∀ a w,Kb2 a w → Q1 (.exit 2) a w):=fun a w hk => xZ HO1 2 (HE2.out a w hk)
 have HR2 : Hid (∀ a w,_ → Q3 .ret a w):=fun a w hq => xR HO3 (xR HO4 (xR HO5 (xR HO6 (xR HO7 (xR HO0 (xR HOT hq))))))
 have HP2 : Hid (∀ c a w,_ → Q3 (.panic c) a w):=fun c a w hq => xP HO3 (xP HO4 (xP HO5 (xP HO6 (xP HO7 (xP HO0 (xP HOT hq))))))
 have HZ2 : Hid (∀ a w,KT a w → Q3 (.exit 0) a w):=fun a w hk => xZ HO3 0 (xZ HO4 0 (xZ HO5 0 (xZ HO6 0 (xZ HO7 0 (HE0.out a w (HNT.out a w hk))))))
 have HX1 : Hid (∀ a w,Kb1 a w → Q1 (.exit 1) a w):=fun a w hk => HE1.out a w hk
 have HR1 : Hid (∀ a w,_ → Q2 .ret a w):=fun a w hq => xR HO2 (xR HO3 (xR HO4 (xR HO5 (xR HO6 (xR HO7 (xR HO0 (xR HOT hq)))))))
 have HP1 : Hid (∀ c a w,_ → Q2 (.panic c) a w):=fun c a w hq => xP HO2 (xP HO3 (xP HO4 (xP HO5 (xP HO6 (xP HO7 (xP HO0 (xP HOT hq)))))))
 have HZ1 : Hid (∀ a w,KT a w → Q2 (.exit 0) a w):=fun a w hk => xZ HO2 0 (xZ HO3 0 (xZ HO4 0 (xZ HO5 0 (xZ HO6 0 (xZ HO7 0 (HE0.out a w (HNT.out a w hk)))))))
 have HZx : Hid (∀ a w,KT a w → Q1 (.exit 0) a w):=fun a w hk => xZ HO1 0 (xZ HO2 0 (xZ HO3 0 (xZ HO4 0 (xZ HO5 0 (xZ HO6 0 (xZ HO7 0 (HE0.out a w (HNT.out a w hk))))))))
 clear HE0 HO0 HE7 HO7 HE6 HO6 HE5 HO5 HE4 HO4 HE3 HO3 HE2 HO2 HE1 HO1 HN0 HNT
 refine wp_seq_k fun Kx hKx => ?_
 have HKx:=ζ hKx
 clear hKx
 refine wp_seq_k fun Kr hKr => ?_
 have HKr:=ζ hKr
 clear hKr
 go_wp2
 refine HKr.out _ _ ?_
 clear HKr Kr
 refine wp_seq_k fun Kr hKr => ?_
 have HKr:=ζ hKr
 clear hKr
 go_wp2
 refine HKr.out _ _ ?_
 clear HKr Kr
 refine wp_seq_k fun Kr hKr => ?_
 have HKr:=ζ hKr
 clear hKr
 go_wp2
 refine HKr.out _ _ ?_
 clear HKr Kr
 refine wp_seq_k fun Kr hKr => ?_
 have HKr:=ζ hKr
 clear hKr
 go_wp2
 refine HKr.out _ _ ?_
 clear HKr Kr
 refine wp_seq_k fun Kr hKr => ?_
 have HKr:=ζ hKr
 clear hKr
 go_wp2
 refine HX5.out _ _ ?_
 refine HKb5.out _ _ ?_
 obtain ⟨pl,hpl⟩ : ∃ pl,(pg s (Mc.rn t k).prog).length = pl:=⟨_,rfl⟩
 rw [hpl] at xi HF
 clear hpl
 go_wp2
 refine HR5.out _ _ ?_
 refine bodyPost_ret (v:=.int .i64 (pl : Int)) (results_tmp Try.results42 _ _ _) rfl ?_
 rw [HPo.out]
 exact DoQ.ok_ HF.out ⟨rfl,rfl,rfl,rfl,rfl⟩ rfl HM.out
theorem pdo12 {o : World} {g : Nat} {s : Syst} {pa : Option Addr} {pc : Nat} {t : St} {m : PV} (k p : Nat) (r q cj : Nat) (a2 : Int) (eb ecap : Nat) (w : World) (h : PM o w g s pa pc { t with evs:=t.evs ++ [⟨(k : Int),12,0,0,false⟩] } m) (ho : Mc.Ok s) (hg : Mc.Good s t) (hk : k < t.rns.length) (hin : Mc.ins s t k = ⟨12,(r : Int),(q : Int),a2⟩) (hpo : (Mc.rn t k).pos = (p : Int)) (hat : aT s (Mc.rn t k) = (p : Int)) (hp1 : p ≤ 256) (hr : r < 8) (hq : q < 8) (hcl : cj < t.cells.length) (hc6 : t.cells.length ≤ 64) (hcj : reg t k (r : Int) % (t.cells.length : Int) = (cj : Int)) (he : m.ev = .slice (some ⟨eb,0,none⟩) (t.evs.length + 1) ecap) :
  Calls Try.prog 42 #[.pointer (some ⟨g,0,none⟩),.pointer (some ⟨m.ps.getD k 0,0,none⟩),.agg #[.int .i64 12,.int .i64 (r : Int),.int .i64 (q : Int),.int .i64 a2],.pointer (some ⟨eb,t.evs.length * 5,none⟩)] w (DoQ o g s pa pc t m k):=by
 obtain ⟨POST,hP⟩ : ∃ P,P = DoQ o g s pa pc t m k:=⟨_,rfl⟩
 have HPo:=ζ hP
 rw [← hP]
 clear hP
 have h8:=(hg.gr k hk).rl
 have hA0 : Below w.heap.size w (w.alloc (.cells #[.int .i64 12,.int .i64 (r : Int),.int .i64 (q : Int),.int .i64 a2] 68)):=(Below.refl _ _).alloc (Nat.le_refl _) _
 have NI0 : (w.alloc (.cells #[.int .i64 12,.int .i64 (r : Int),.int .i64 (q : Int),.int .i64 a2] 68)).heap[w.heap.size]? = some (.cells #[.int .i64 12,.int .i64 (r : Int),.int .i64 (q : Int),.int .i64 a2] 68 (0,0)):=heap_alloc_new w _
 have HM:=ζ (h.below hA0)
 have HI:=ζ NI0
 have HE:=ζ he
 have H8:=ζ h8
 have HKk:=ζ hk
 have HIn:=ζ hin
 have HG:=ζ hg
 have HOk:=ζ ho
 have HAT : Hid (∀ (u : St) (W : World) (m2 : PV),PM o W g s pa pc u m2 → (u.rns = t.rns ∨ ∃ r x,u.rns = Mc.setR t k r x) → m2.ps = m.ps → W.cell? ⟨m.ps.getD k 0,1,none⟩ = some (.int .i64 (p : Int))):=fun u W m2 hW hu hp => by
  have hl : k < u.rns.length:=by rcases hu with e | ⟨r,x,e⟩ <;> rw [e] <;> (try rw [setR_len]) <;> exact hk
  have h1:=(hW.at1 k hl).1
  rw [hp] at h1;rw [h1,← hat];unfold Mc.rn aT
  rcases hu with e | ⟨r,x,e⟩
  ·rw [e]
  ·rw [e]
   unfold Mc.setR
   rw [rn_set t k k _ hk,if_pos rfl];rfl
 have HRg : Hid (∀ (W : World) (e : Ev) (r : Nat),PM o W g s pa pc { t with evs:=t.evs ++ [e] } m → r < 8 → W.cell? ⟨m.ps.getD k 0,2 + r,none⟩ = some (.int .i64 (reg t k (r : Int)))):=fun W e r hW hr => hW.reg1 k hk r hr
 have HRf : Hid (∀ (W : World) (e : Ev) (j : Nat),PM o W g s pa pc { t with evs:=t.evs ++ [e] } m → W.frozen? ⟨m.ps.getD k 0,j,none⟩ = false):=fun W e j hW => hW.rfz k hk j
 have HSr : Hid (∀ (W : World) (e : Ev) (r : Nat) (x : Int),PM o W g s pa pc { t with evs:=t.evs ++ [e] } m → r < 8 → PM o (W.setCell ⟨m.ps.getD k 0,2 + r,none⟩ (.int .i64 x)) g s pa pc { t with rns:=Mc.setR t k (r : Int) x,evs:=t.evs ++ [e] } m):=fun W e r x hW hr => hW.setReg k hk r hr h8 x
 have ep : IntKind.i64.wrap ((p : Int) + 1) = (p : Int) + 1:=by rw [IntKind.wrap_i64];omega
 have hce : cel s t k = (cj : Int):=by unfold cel rest;rw [hin];exact hcj
 have hF_:=F12 (s:=s) (t:=t) (k:=k) (by rw [hin])
 simp only [hin,hpo,hce,Int.toNat_natCast] at hF_
 have HF:=ζ hF_
 clear hF_ hce
 have HCa:=ζ (fun W hW => pacc12 (o:=o) (g:=g) (s:=s) (pa:=pa) (pc:=pc) (t:=t) (m:=m) k r q cj a2 eb ecap W hW hg hk hr hq hcl hc6 hcj he)
 obtain ⟨pk,hpk⟩ : ∃ pk,m.ps.getD k 0 = pk:=⟨_,rfl⟩
 have HPK:=ζ hpk
 rw [hpk] at HRg HRf HSr HAT HCa ⊢
 obtain ⟨el,hel⟩ : ∃ el,t.evs.length = el:=⟨_,rfl⟩
 have HEL:=ζ hel
 rw [hel] at HCa ⊢
 clear h hA0 NI0 he h8 hin hpo hat hg ho hk hpk hel hp1
 go_enter Try.func42,Try.ntmps42
 refine wp_seq_k fun K0 hK0 => ?_
 have HK0:=ζ hK0
 clear hK0
 go_wp2
 refine HK0.out _ _ ?_
 clear HK0 K0
 generalize w.alloc _ = X at *
 generalize w.heap.size = gi at *
 obtain ⟨z0,z1,z2,z3⟩:=cellsY4 HI.out
 refine wp_seq_q fun KT QT hKT hNT hOT => ?_
 have HKT:=ζ hKT
 have HNT:=ζ hNT
 have HOT:=ζ hOT
 clear hKT hNT hOT
 refine wp_seq_k fun K0 hK0 => ?_
 have HK0:=ζ hK0
 clear hK0
 go_wp2
 refine HK0.out _ _ ?_
 clear HK0 K0
 refine wp_block_q fun Q0 hN0 hE0 hO0 => ?_
 have HN0:=ζ hN0
 have HE0:=ζ hE0
 have HO0:=ζ hO0
 clear hN0 hE0 hO0
 refine wp_seq_block_q fun Kb7 Q7 hKb7 hN7 hE7 hO7 => ?_
 have HKb7:=ζ hKb7
 have HN7:=ζ hN7
 have HE7:=ζ hE7
 have HO7:=ζ hO7
 clear hKb7 hN7 hE7 hO7
 refine wp_seq_block_q fun Kb6 Q6 hKb6 hN6 hE6 hO6 => ?_
 have HKb6:=ζ hKb6
 have HN6:=ζ hN6
 have HE6:=ζ hE6
 have HO6:=ζ hO6
 clear hKb6 hN6 hE6 hO6
 refine wp_seq_block_q fun Kb5 Q5 hKb5 hN5 hE5 hO5 => ?_
 have HKb5:=ζ hKb5
 have HN5:=ζ hN5
 have HE5:=ζ hE5
 have HO5:=ζ hO5
 clear hKb5 hN5 hE5 hO5
 refine wp_seq_block_q fun Kb4 Q4 hKb4 hN4 hE4 hO4 => ?_
 have HKb4:=ζ hKb4
 have HN4:=ζ hN4
 have HE4:=ζ hE4
 have HO4:=ζ hO4
 clear hKb4 hN4 hE4 hO4
 refine wp_seq_block_q fun Kb3 Q3 hKb3 hN3 hE3 hO3 => ?_
 have HKb3:=ζ hKb3
 have HN3:=ζ hN3
 have HE3:=ζ hE3
 have HO3:=ζ hO3
 clear hKb3 hN3 hE3 hO3
 refine wp_seq_block_q fun Kb2 Q2 hKb2 hN2 hE2 hO2 => ?_
 have HKb2:=ζ hKb2
 have HN2:=ζ hN2
 have HE2:=ζ hE2
 have HO2:=ζ hO2
 clear hKb2 hN2 hE2 hO2
 refine wp_seq_block_q fun Kb1 Q1 hKb1 hN1 hE1 hO1 => ?_
 have HKb1:=ζ hKb1
 have HN1:=ζ hN1
 have HE1:=ζ hE1
 have HO1:=ζ hO1
 clear hKb1 hN1 hE1 hO1
 have HX7 : Hid (∀ a w,Kb7 a w → Q1 (.exit 7) a w):=fun a w hk => xZ HO1 7 (xZ HO2 7 (xZ HO3 7 (xZ HO4 7 (xZ HO5 7 (xZ HO6 7 (HE7.out a w hk))))))
 have HR7 : Hid (∀ a w,_ → Q0 .ret a w):=fun a w hq => xR HO0 (xR HOT hq)
 have HP7 : Hid (∀ c a w,_ → Q0 (.panic c) a w):=fun c a w hq => xP HO0 (xP HOT hq)
 have HZ7 : Hid (∀ a w,KT a w → Q0 (.exit 0) a w):=fun a w hk => HE0.out a w (HNT.out a w hk)
 have HX6 : Hid (∀ a w,Kb6 a w → Q1 (.exit 6) a w):=fun a w hk => xZ HO1 6 (xZ HO2 6 (xZ HO3 6 (xZ HO4 6 (xZ HO5 6 (HE6.out a w hk)))))
 have HR6 : Hid (∀ a w,_ → Q7 .ret a w):=fun a w hq => xR HO7 (xR HO0 (xR HOT hq))
 have HP6 : Hid (∀ c a w,_ → Q7 (.panic c) a w):=fun c a w hq => xP HO7 (xP HO0 (xP HOT hq))
 have HZ6 : Hid (∀ a w,KT a w → Q7 (.exit 0) a w):=fun a w hk => xZ HO7 0 (HE0.out a w (HNT.out a w hk))
 have HX5 : Hid (∀ a w,Kb5 a w → Q1 (.exit 5) a w):=fun a w hk => xZ HO1 5 (xZ HO2 5 (xZ HO3 5 (xZ HO4 5 (HE5.out a w hk))))
 have HR5 : Hid (∀ a w,_ → Q6 .ret a w):=fun a w hq => xR HO6 (xR HO7 (xR HO0 (xR HOT hq)))
 have HP5 : Hid (∀ c a w,_ → Q6 (.panic c) a w):=fun c a w hq => xP HO6 (xP HO7 (xP HO0 (xP HOT hq)))
 have HZ5 : Hid (∀ a w,KT a w → Q6 (.exit 0) a w):=fun a w hk => xZ HO6 0 (xZ HO7 0 (HE0.out a w (HNT.out a w hk)))
 have HX4 : Hid (∀ a w,Kb4 a w → Q1 (.exit 4) a w):=fun a w hk => xZ HO1 4 (xZ HO2 4 (xZ HO3 4 (HE4.out a w hk)))
 have HR4 : Hid (∀ a w,_ → Q5 .ret a w):=fun a w hq => xR HO5 (xR HO6 (xR HO7 (xR HO0 (xR HOT hq))))
 have HP4 : Hid (∀ c a w,_ → Q5 (.panic c) a w):=fun c a w hq => xP HO5 (xP HO6 (xP HO7 (xP HO0 (xP HOT hq))))
 have HZ4 : Hid (∀ a w,KT a w → Q5 (.exit 0) a w):=fun a w hk => xZ HO5 0 (xZ HO6 0 (xZ HO7 0 (HE0.out a w (HNT.out a w hk))))
 have HX3 : Hid (∀ a w,Kb3 a w → Q1 (.exit 3) a w):=fun a w hk => xZ HO1 3 (xZ HO2 3 (HE3.out a w hk))
 have HR3 : Hid (∀ a w,_ → Q4 .ret a w):=fun a w hq => xR HO4 (xR HO5 (xR HO6 (xR HO7 (xR HO0 (xR HOT hq)))))
 have HP3 : Hid (∀ c a w,_ → Q4 (.panic c) a w):=fun c a w hq => xP HO4 (xP HO5 (xP HO6 (xP HO7 (xP HO0 (xP HOT hq)))))
 have HZ3 : Hid (∀ a w,KT a w → Q4 (.exit 0) a w):=fun a w hk => xZ HO4 0 (xZ HO5 0 (xZ HO6 0 (xZ HO7 0 (HE0.out a w (HNT.out a w hk)))))
 have HX2 : Hid (∀ a w,Kb2 a w → Q1 (.exit 2) a w):=fun a w hk => xZ HO1 2 (HE2.out a w hk)
 have HR2 : Hid (∀ a w,_ → Q3 .ret a w):=fun a w hq => xR HO3 (xR HO4 (xR HO5 (xR HO6 (xR HO7 (xR HO0 (xR HOT hq))))))
 have HP2 : Hid (∀ c a w,_ → Q3 (.panic c) a w):=fun c a w hq => xP HO3 (xP HO4 (xP HO5 (xP HO6 (xP HO7 (xP HO0 (xP HOT hq))))))
 have HZ2 : Hid (∀ a w,KT a w → Q3 (.exit 0) a w):=fun a w hk => xZ HO3 0 (xZ HO4 0 (xZ HO5 0 (xZ HO6 0 (xZ HO7 0 (HE0.out a w (HNT.out a w hk))))))
 have HX1 : Hid (∀ a w,Kb1 a w → Q1 (.exit 1) a w):=fun a w hk => HE1.out a w hk
 have HR1 : Hid (∀ a w,_ → Q2 .ret a w):=fun a w hq => xR HO2 (xR HO3 (xR HO4 (xR HO5 (xR HO6 (xR HO7 (xR HO0 (xR HOT hq)))))))
 have HP1 : Hid (∀ c a w,_ → Q2 (.panic c) a w):=fun c a w hq => xP HO2 (xP HO3 (xP HO4 (xP HO5 (xP HO6 (xP HO7 (xP HO0 (xP HOT hq)))))))
 have HZ1 : Hid (∀ a w,KT a w → Q2 (.exit 0) a w):=fun a w hk => xZ HO2 0 (xZ HO3 0 (xZ HO4 0 (xZ HO5 0 (xZ HO6 0 (xZ HO7 0 (HE0.out a w (HNT.out a w hk)))))))
 have HZx : Hid (∀ a w,KT a w → Q1 (.exit 0) a w):=fun a w hk => xZ HO1 0 (xZ HO2 0 (xZ HO3 0 (xZ HO4 0 (xZ HO5 0 (xZ HO6 0 (xZ HO7 0 (HE0.out a w (HNT.out a w hk))))))))
 clear HE0 HO0 HE7 HO7 HE6 HO6 HE5 HO5 HE4 HO4 HE3 HO3 HE2 HO2 HE1 HO1 HN0 HNT
 refine wp_seq_k fun Kx hKx => ?_
 have HKx:=ζ hKx
 clear hKx
 refine wp_seq_k fun Kr hKr => ?_
 have HKr:=ζ hKr
 clear hKr
 go_wp2
 refine HKr.out _ _ ?_
 clear HKr Kr
 refine wp_seq_k fun Kr hKr => ?_
 have HKr:=ζ hKr
 clear hKr
 go_wp2
 refine HKr.out _ _ ?_
 clear HKr Kr
 refine wp_seq_k fun Kr hKr => ?_
 have HKr:=ζ hKr
 clear hKr
 go_wp2
 refine HKr.out _ _ ?_
 clear HKr Kr
 refine wp_seq_k fun Kr hKr => ?_
 have HKr:=ζ hKr
 clear hKr
 go_wp2
 refine HKr.out _ _ ?_
 clear HKr Kr
 refine wp_seq_k fun Kr hKr => ?_
 have HKr:=ζ hKr
 clear hKr
 go_wp2
 refine HKr.out _ _ ?_
 clear HKr Kr
 go_wp2
 refine HX6.out _ _ ?_
 refine HKb6.out _ _ ?_
 go_wp2_with fail
 refine (HCa.out X HM.out).mono ?_
 rintro e_ w_ ⟨rfl,hM⟩
 have HM2:=ζ hM
 clear hM z0 z1 z2 z3 HM HI
 go_wp2
 refine HZ6.out _ _ ?_
 refine HKT.out _ _ ?_
 have xat:=HAT.out _ _ _ HM2.out (.inr ⟨_,_,rfl⟩) rfl
 go_wp2
 rw [HPo.out]
 exact DoQ.ok_ HF.out ⟨rfl,rfl,rfl,rfl,rfl⟩ rfl HM2.out
theorem pdo13 {o : World} {g : Nat} {s : Syst} {pa : Option Addr} {pc : Nat} {t : St} {m : PV} (k p : Nat) (r q cj : Nat) (a2 : Int) (eb ecap : Nat) (w : World) (h : PM o w g s pa pc { t with evs:=t.evs ++ [⟨(k : Int),13,0,0,false⟩] } m) (ho : Mc.Ok s) (hg : Mc.Good s t) (hk : k < t.rns.length) (hin : Mc.ins s t k = ⟨13,(r : Int),(q : Int),a2⟩) (hpo : (Mc.rn t k).pos = (p : Int)) (hat : aT s (Mc.rn t k) = (p : Int)) (hp1 : p ≤ 256) (hr : r < 8) (hq : q < 8) (hcl : cj < t.cells.length) (hc6 : t.cells.length ≤ 64) (hcj : reg t k (r : Int) % (t.cells.length : Int) = (cj : Int)) (he : m.ev = .slice (some ⟨eb,0,none⟩) (t.evs.length + 1) ecap) :
  Calls Try.prog 42 #[.pointer (some ⟨g,0,none⟩),.pointer (some ⟨m.ps.getD k 0,0,none⟩),.agg #[.int .i64 13,.int .i64 (r : Int),.int .i64 (q : Int),.int .i64 a2],.pointer (some ⟨eb,t.evs.length * 5,none⟩)] w (DoQ o g s pa pc t m k):=by
 obtain ⟨POST,hP⟩ : ∃ P,P = DoQ o g s pa pc t m k:=⟨_,rfl⟩
 have HPo:=ζ hP
 rw [← hP]
 clear hP
 have h8:=(hg.gr k hk).rl
 have hA0 : Below w.heap.size w (w.alloc (.cells #[.int .i64 13,.int .i64 (r : Int),.int .i64 (q : Int),.int .i64 a2] 68)):=(Below.refl _ _).alloc (Nat.le_refl _) _
 have NI0 : (w.alloc (.cells #[.int .i64 13,.int .i64 (r : Int),.int .i64 (q : Int),.int .i64 a2] 68)).heap[w.heap.size]? = some (.cells #[.int .i64 13,.int .i64 (r : Int),.int .i64 (q : Int),.int .i64 a2] 68 (0,0)):=heap_alloc_new w _
 have HM:=ζ (h.below hA0)
 have HI:=ζ NI0
 have HE:=ζ he
 have H8:=ζ h8
 have HKk:=ζ hk
 have HIn:=ζ hin
 have HG:=ζ hg
 have HOk:=ζ ho
 have HAT : Hid (∀ (u : St) (W : World) (m2 : PV),PM o W g s pa pc u m2 → (u.rns = t.rns ∨ ∃ r x,u.rns = Mc.setR t k r x) → m2.ps = m.ps → W.cell? ⟨m.ps.getD k 0,1,none⟩ = some (.int .i64 (p : Int))):=fun u W m2 hW hu hp => by
  have hl : k < u.rns.length:=by rcases hu with e | ⟨r,x,e⟩ <;> rw [e] <;> (try rw [setR_len]) <;> exact hk
  have h1:=(hW.at1 k hl).1
  rw [hp] at h1;rw [h1,← hat];unfold Mc.rn aT
  rcases hu with e | ⟨r,x,e⟩
  ·rw [e]
  ·rw [e]
   unfold Mc.setR
   rw [rn_set t k k _ hk,if_pos rfl];rfl
 have HRg : Hid (∀ (W : World) (e : Ev) (r : Nat),PM o W g s pa pc { t with evs:=t.evs ++ [e] } m → r < 8 → W.cell? ⟨m.ps.getD k 0,2 + r,none⟩ = some (.int .i64 (reg t k (r : Int)))):=fun W e r hW hr => hW.reg1 k hk r hr
 have HRf : Hid (∀ (W : World) (e : Ev) (j : Nat),PM o W g s pa pc { t with evs:=t.evs ++ [e] } m → W.frozen? ⟨m.ps.getD k 0,j,none⟩ = false):=fun W e j hW => hW.rfz k hk j
 have HSr : Hid (∀ (W : World) (e : Ev) (r : Nat) (x : Int),PM o W g s pa pc { t with evs:=t.evs ++ [e] } m → r < 8 → PM o (W.setCell ⟨m.ps.getD k 0,2 + r,none⟩ (.int .i64 x)) g s pa pc { t with rns:=Mc.setR t k (r : Int) x,evs:=t.evs ++ [e] } m):=fun W e r x hW hr => hW.setReg k hk r hr h8 x
 have ep : IntKind.i64.wrap ((p : Int) + 1) = (p : Int) + 1:=by rw [IntKind.wrap_i64];omega
 have hce : cel s t k = (cj : Int):=by unfold cel rest;rw [hin];exact hcj
 have hF_:=F13 (s:=s) (t:=t) (k:=k) (by rw [hin])
 simp only [hin,hpo,hce,Int.toNat_natCast] at hF_
 have HF:=ζ hF_
 clear hF_ hce
 have HCa:=ζ (fun W hW => pacc13 (o:=o) (g:=g) (s:=s) (pa:=pa) (pc:=pc) (t:=t) (m:=m) k r q cj a2 eb ecap W hW hg hk hr hq hcl hc6 hcj he)
 obtain ⟨pk,hpk⟩ : ∃ pk,m.ps.getD k 0 = pk:=⟨_,rfl⟩
 have HPK:=ζ hpk
 rw [hpk] at HRg HRf HSr HAT HCa ⊢
 obtain ⟨el,hel⟩ : ∃ el,t.evs.length = el:=⟨_,rfl⟩
 have HEL:=ζ hel
 rw [hel] at HCa ⊢
 clear h hA0 NI0 he h8 hin hpo hat hg ho hk hpk hel hp1
 go_enter Try.func42,Try.ntmps42
 refine wp_seq_k fun K0 hK0 => ?_
 have HK0:=ζ hK0
 clear hK0
 go_wp2
 refine HK0.out _ _ ?_
 clear HK0 K0
 generalize w.alloc _ = X at *
 generalize w.heap.size = gi at *
 obtain ⟨z0,z1,z2,z3⟩:=cellsY4 HI.out
 refine wp_seq_q fun KT QT hKT hNT hOT => ?_
 have HKT:=ζ hKT
 have HNT:=ζ hNT
 have HOT:=ζ hOT
 clear hKT hNT hOT
 refine wp_seq_k fun K0 hK0 => ?_
 have HK0:=ζ hK0
 clear hK0
 go_wp2
 refine HK0.out _ _ ?_
 clear HK0 K0
 refine wp_block_q fun Q0 hN0 hE0 hO0 => ?_
 have HN0:=ζ hN0
 have HE0:=ζ hE0
 have HO0:=ζ hO0
 clear hN0 hE0 hO0
 refine wp_seq_block_q fun Kb7 Q7 hKb7 hN7 hE7 hO7 => ?_
 have HKb7:=ζ hKb7
 have HN7:=ζ hN7
 have HE7:=ζ hE7
 have HO7:=ζ hO7
 clear hKb7 hN7 hE7 hO7
 refine wp_seq_block_q fun Kb6 Q6 hKb6 hN6 hE6 hO6 => ?_
 have HKb6:=ζ hKb6
 have HN6:=ζ hN6
 have HE6:=ζ hE6
 have HO6:=ζ hO6
 clear hKb6 hN6 hE6 hO6
 refine wp_seq_block_q fun Kb5 Q5 hKb5 hN5 hE5 hO5 => ?_
 have HKb5:=ζ hKb5
 have HN5:=ζ hN5
 have HE5:=ζ hE5
 have HO5:=ζ hO5
 clear hKb5 hN5 hE5 hO5
 refine wp_seq_block_q fun Kb4 Q4 hKb4 hN4 hE4 hO4 => ?_
 have HKb4:=ζ hKb4
 have HN4:=ζ hN4
 have HE4:=ζ hE4
 have HO4:=ζ hO4
 clear hKb4 hN4 hE4 hO4
 refine wp_seq_block_q fun Kb3 Q3 hKb3 hN3 hE3 hO3 => ?_
 have HKb3:=ζ hKb3
 have HN3:=ζ hN3
 have HE3:=ζ hE3
 have HO3:=ζ hO3
 clear hKb3 hN3 hE3 hO3
 refine wp_seq_block_q fun Kb2 Q2 hKb2 hN2 hE2 hO2 => ?_
 have HKb2:=ζ hKb2
 have HN2:=ζ hN2
 have HE2:=ζ hE2
 have HO2:=ζ hO2
 clear hKb2 hN2 hE2 hO2
 refine wp_seq_block_q fun Kb1 Q1 hKb1 hN1 hE1 hO1 => ?_
 have HKb1:=ζ hKb1
 have HN1:=ζ hN1
 have HE1:=ζ hE1
 have HO1:=ζ hO1
 clear hKb1 hN1 hE1 hO1
 have HX7 : Hid (∀ a w,Kb7 a w → Q1 (.exit 7) a w):=fun a w hk => xZ HO1 7 (xZ HO2 7 (xZ HO3 7 (xZ HO4 7 (xZ HO5 7 (xZ HO6 7 (HE7.out a w hk))))))
 have HR7 : Hid (∀ a w,_ → Q0 .ret a w):=fun a w hq => xR HO0 (xR HOT hq)
 have HP7 : Hid (∀ c a w,_ → Q0 (.panic c) a w):=fun c a w hq => xP HO0 (xP HOT hq)
 have HZ7 : Hid (∀ a w,KT a w → Q0 (.exit 0) a w):=fun a w hk => HE0.out a w (HNT.out a w hk)
 have HX6 : Hid (∀ a w,Kb6 a w → Q1 (.exit 6) a w):=fun a w hk => xZ HO1 6 (xZ HO2 6 (xZ HO3 6 (xZ HO4 6 (xZ HO5 6 (HE6.out a w hk)))))
 have HR6 : Hid (∀ a w,_ → Q7 .ret a w):=fun a w hq => xR HO7 (xR HO0 (xR HOT hq))
 have HP6 : Hid (∀ c a w,_ → Q7 (.panic c) a w):=fun c a w hq => xP HO7 (xP HO0 (xP HOT hq))
 have HZ6 : Hid (∀ a w,KT a w → Q7 (.exit 0) a w):=fun a w hk => xZ HO7 0 (HE0.out a w (HNT.out a w hk))
 have HX5 : Hid (∀ a w,Kb5 a w → Q1 (.exit 5) a w):=fun a w hk => xZ HO1 5 (xZ HO2 5 (xZ HO3 5 (xZ HO4 5 (HE5.out a w hk))))
 have HR5 : Hid (∀ a w,_ → Q6 .ret a w):=fun a w hq => xR HO6 (xR HO7 (xR HO0 (xR HOT hq)))
 have HP5 : Hid (∀ c a w,_ → Q6 (.panic c) a w):=fun c a w hq => xP HO6 (xP HO7 (xP HO0 (xP HOT hq)))
 have HZ5 : Hid (∀ a w,KT a w → Q6 (.exit 0) a w):=fun a w hk => xZ HO6 0 (xZ HO7 0 (HE0.out a w (HNT.out a w hk)))
 have HX4 : Hid (∀ a w,Kb4 a w → Q1 (.exit 4) a w):=fun a w hk => xZ HO1 4 (xZ HO2 4 (xZ HO3 4 (HE4.out a w hk)))
 have HR4 : Hid (∀ a w,_ → Q5 .ret a w):=fun a w hq => xR HO5 (xR HO6 (xR HO7 (xR HO0 (xR HOT hq))))
 have HP4 : Hid (∀ c a w,_ → Q5 (.panic c) a w):=fun c a w hq => xP HO5 (xP HO6 (xP HO7 (xP HO0 (xP HOT hq))))
 have HZ4 : Hid (∀ a w,KT a w → Q5 (.exit 0) a w):=fun a w hk => xZ HO5 0 (xZ HO6 0 (xZ HO7 0 (HE0.out a w (HNT.out a w hk))))
 have HX3 : Hid (∀ a w,Kb3 a w → Q1 (.exit 3) a w):=fun a w hk => xZ HO1 3 (xZ HO2 3 (HE3.out a w hk))
 have HR3 : Hid (∀ a w,_ → Q4 .ret a w):=fun a w hq => xR HO4 (xR HO5 (xR HO6 (xR HO7 (xR HO0 (xR HOT hq)))))
 have HP3 : Hid (∀ c a w,_ → Q4 (.panic c) a w):=fun c a w hq => xP HO4 (xP HO5 (xP HO6 (xP HO7 (xP HO0 (xP HOT hq)))))
 have HZ3 : Hid (∀ a w,KT a w → Q4 (.exit 0) a w):=fun a w hk => xZ HO4 0 (xZ HO5 0 (xZ HO6 0 (xZ HO7 0 (HE0.out a w (HNT.out a w hk)))))
 have HX2 : Hid (∀ a w,Kb2 a w → Q1 (.exit 2) a w):=fun a w hk => xZ HO1 2 (HE2.out a w hk)
 have HR2 : Hid (∀ a w,_ → Q3 .ret a w):=fun a w hq => xR HO3 (xR HO4 (xR HO5 (xR HO6 (xR HO7 (xR HO0 (xR HOT hq))))))
 have HP2 : Hid (∀ c a w,_ → Q3 (.panic c) a w):=fun c a w hq => xP HO3 (xP HO4 (xP HO5 (xP HO6 (xP HO7 (xP HO0 (xP HOT hq))))))
 have HZ2 : Hid (∀ a w,KT a w → Q3 (.exit 0) a w):=fun a w hk => xZ HO3 0 (xZ HO4 0 (xZ HO5 0 (xZ HO6 0 (xZ HO7 0 (HE0.out a w (HNT.out a w hk))))))
 have HX1 : Hid (∀ a w,Kb1 a w → Q1 (.exit 1) a w):=fun a w hk => HE1.out a w hk
 have HR1 : Hid (∀ a w,_ → Q2 .ret a w):=fun a w hq => xR HO2 (xR HO3 (xR HO4 (xR HO5 (xR HO6 (xR HO7 (xR HO0 (xR HOT hq)))))))
 have HP1 : Hid (∀ c a w,_ → Q2 (.panic c) a w):=fun c a w hq => xP HO2 (xP HO3 (xP HO4 (xP HO5 (xP HO6 (xP HO7 (xP HO0 (xP HOT hq)))))))
 have HZ1 : Hid (∀ a w,KT a w → Q2 (.exit 0) a w):=fun a w hk => xZ HO2 0 (xZ HO3 0 (xZ HO4 0 (xZ HO5 0 (xZ HO6 0 (xZ HO7 0 (HE0.out a w (HNT.out a w hk)))))))
 have HZx : Hid (∀ a w,KT a w → Q1 (.exit 0) a w):=fun a w hk => xZ HO1 0 (xZ HO2 0 (xZ HO3 0 (xZ HO4 0 (xZ HO5 0 (xZ HO6 0 (xZ HO7 0 (HE0.out a w (HNT.out a w hk))))))))
 clear HE0 HO0 HE7 HO7 HE6 HO6 HE5 HO5 HE4 HO4 HE3 HO3 HE2 HO2 HE1 HO1 HN0 HNT
 refine wp_seq_k fun Kx hKx => ?_
 have HKx:=ζ hKx
 clear hKx
 refine wp_seq_k fun Kr hKr => ?_
 have HKr:=ζ hKr
 clear hKr
 go_wp2
 refine HKr.out _ _ ?_
 clear HKr Kr
 refine wp_seq_k fun Kr hKr => ?_
 have HKr:=ζ hKr
 clear hKr
 go_wp2
 refine HKr.out _ _ ?_
 clear HKr Kr
 refine wp_seq_k fun Kr hKr => ?_
 have HKr:=ζ hKr
 clear hKr
 go_wp2
 refine HKr.out _ _ ?_
 clear HKr Kr
 refine wp_seq_k fun Kr hKr => ?_
 have HKr:=ζ hKr
 clear hKr
 go_wp2
 refine HKr.out _ _ ?_
 clear HKr Kr
 refine wp_seq_k fun Kr hKr => ?_
 have HKr:=ζ hKr
 clear hKr
 go_wp2
 refine HKr.out _ _ ?_
 clear HKr Kr
 go_wp2
 refine HX6.out _ _ ?_
 refine HKb6.out _ _ ?_
 go_wp2_with fail
 refine (HCa.out X HM.out).mono ?_
 rintro e_ w_ ⟨rfl,hM⟩
 have HM2:=ζ hM
 clear hM z0 z1 z2 z3 HM HI
 go_wp2
 refine HZ6.out _ _ ?_
 refine HKT.out _ _ ?_
 have xat:=HAT.out _ _ _ HM2.out (.inl rfl) rfl
 go_wp2
 rw [HPo.out]
 exact DoQ.ok_ HF.out ⟨rfl,rfl,rfl,rfl,rfl⟩ rfl HM2.out
theorem pdoS {o : World} {g : Nat} {s : Syst} {pa : Option Addr} {pc : Nat} {t : St} {m : PV} (k p : Nat) (op a0 a1 a2 : Int) (eb ecap : Nat) (w : World) (h : PM o w g s pa pc { t with evs:=t.evs ++ [⟨(k : Int),op,0,0,false⟩] } m) (ho : Mc.Ok s) (hg : Mc.Good s t) (hk : k < t.rns.length) (hin : Mc.ins s t k = ⟨op,a0,a1,a2⟩) (hpo : (Mc.rn t k).pos = (p : Int)) (hat : aT s (Mc.rn t k) = (p : Int)) (hp1 : p ≤ 256) (hno : op ≠ 1 ∧ op ≠ 2 ∧ op ≠ 3 ∧ op ≠ 4 ∧ op ≠ 16 ∧ op ≠ 12 ∧ op ≠ 13) (HSh : ∀ W,PM o W g s pa pc { t with evs:=t.evs ++ [⟨(k : Int),op,0,0,false⟩] } m → Calls Try.prog 56 #[.pointer (some ⟨g,0,none⟩),.pointer (some ⟨m.ps.getD k 0,0,none⟩),.agg #[.int .i64 op,.int .i64 a0,.int .i64 a1,.int .i64 a2],.pointer (some ⟨eb,t.evs.length * 5,none⟩)] W (DoQ o g s pa pc t m k)) (he : m.ev = .slice (some ⟨eb,0,none⟩) (t.evs.length + 1) ecap) :
  Calls Try.prog 42 #[.pointer (some ⟨g,0,none⟩),.pointer (some ⟨m.ps.getD k 0,0,none⟩),.agg #[.int .i64 op,.int .i64 a0,.int .i64 a1,.int .i64 a2],.pointer (some ⟨eb,t.evs.length * 5,none⟩)] w (DoQ o g s pa pc t m k):=by
 obtain ⟨POST,hP⟩ : ∃ P,P = DoQ o g s pa pc t m k:=⟨_,rfl⟩
 have HPo:=ζ hP
 rw [← hP]
 clear hP
 have h8:=(hg.gr k hk).rl
 have hA0 : Below w.heap.size w (w.alloc (.cells #[.int .i64 op,.int .i64 a0,.int .i64 a1,.int .i64 a2] 68)):=(Below.refl _ _).alloc (Nat.le_refl _) _
 have NI0 : (w.alloc (.cells #[.int .i64 op,.int .i64 a0,.int .i64 a1,.int .i64 a2] 68)).heap[w.heap.size]? = some (.cells #[.int .i64 op,.int .i64 a0,.int .i64 a1,.int .i64 a2] 68 (0,0)):=heap_alloc_new w _
 have HM:=ζ (h.below hA0)
 have HI:=ζ NI0
 have HE:=ζ he
 have H8:=ζ h8
 have HKk:=ζ hk
 have HIn:=ζ hin
 have HG:=ζ hg
 have HOk:=ζ ho
 have HAT : Hid (∀ (u : St) (W : World) (m2 : PV),PM o W g s pa pc u m2 → (u.rns = t.rns ∨ ∃ r x,u.rns = Mc.setR t k r x) → m2.ps = m.ps → W.cell? ⟨m.ps.getD k 0,1,none⟩ = some (.int .i64 (p : Int))):=fun u W m2 hW hu hp => by
  have hl : k < u.rns.length:=by rcases hu with e | ⟨r,x,e⟩ <;> rw [e] <;> (try rw [setR_len]) <;> exact hk
  have h1:=(hW.at1 k hl).1
  rw [hp] at h1;rw [h1,← hat];unfold Mc.rn aT
  rcases hu with e | ⟨r,x,e⟩
  ·rw [e]
  ·rw [e]
   unfold Mc.setR
   rw [rn_set t k k _ hk,if_pos rfl];rfl
 have HRg : Hid (∀ (W : World) (e : Ev) (r : Nat),PM o W g s pa pc { t with evs:=t.evs ++ [e] } m → r < 8 → W.cell? ⟨m.ps.getD k 0,2 + r,none⟩ = some (.int .i64 (reg t k (r : Int)))):=fun W e r hW hr => hW.reg1 k hk r hr
 have HRf : Hid (∀ (W : World) (e : Ev) (j : Nat),PM o W g s pa pc { t with evs:=t.evs ++ [e] } m → W.frozen? ⟨m.ps.getD k 0,j,none⟩ = false):=fun W e j hW => hW.rfz k hk j
 have HSr : Hid (∀ (W : World) (e : Ev) (r : Nat) (x : Int),PM o W g s pa pc { t with evs:=t.evs ++ [e] } m → r < 8 → PM o (W.setCell ⟨m.ps.getD k 0,2 + r,none⟩ (.int .i64 x)) g s pa pc { t with rns:=Mc.setR t k (r : Int) x,evs:=t.evs ++ [e] } m):=fun W e r x hW hr => hW.setReg k hk r hr h8 x
 have ep : IntKind.i64.wrap ((p : Int) + 1) = (p : Int) + 1:=by rw [IntKind.wrap_i64];omega
 have HNO:=ζ hno
 have HSc:=ζ HSh
 clear hno HSh
 obtain ⟨pk,hpk⟩ : ∃ pk,m.ps.getD k 0 = pk:=⟨_,rfl⟩
 have HPK:=ζ hpk
 rw [hpk] at HRg HRf HSr HAT HSc ⊢
 obtain ⟨el,hel⟩ : ∃ el,t.evs.length = el:=⟨_,rfl⟩
 have HEL:=ζ hel
 rw [hel] at HSc ⊢
 clear h hA0 NI0 he h8 hin hpo hat hg ho hk hpk hel hp1
 go_enter Try.func42,Try.ntmps42
 refine wp_seq_k fun K0 hK0 => ?_
 have HK0:=ζ hK0
 clear hK0
 go_wp2
 refine HK0.out _ _ ?_
 clear HK0 K0
 generalize w.alloc _ = X at *
 generalize w.heap.size = gi at *
 obtain ⟨z0,z1,z2,z3⟩:=cellsY4 HI.out
 refine wp_seq_q fun KT QT hKT hNT hOT => ?_
 have HKT:=ζ hKT
 have HNT:=ζ hNT
 have HOT:=ζ hOT
 clear hKT hNT hOT
 refine wp_seq_k fun K0 hK0 => ?_
 have HK0:=ζ hK0
 clear hK0
 go_wp2
 refine HK0.out _ _ ?_
 clear HK0 K0
 refine wp_block_q fun Q0 hN0 hE0 hO0 => ?_
 have HN0:=ζ hN0
 have HE0:=ζ hE0
 have HO0:=ζ hO0
 clear hN0 hE0 hO0
 refine wp_seq_block_q fun Kb7 Q7 hKb7 hN7 hE7 hO7 => ?_
 have HKb7:=ζ hKb7
 have HN7:=ζ hN7
 have HE7:=ζ hE7
 have HO7:=ζ hO7
 clear hKb7 hN7 hE7 hO7
 refine wp_seq_block_q fun Kb6 Q6 hKb6 hN6 hE6 hO6 => ?_
 have HKb6:=ζ hKb6
 have HN6:=ζ hN6
 have HE6:=ζ hE6
 have HO6:=ζ hO6
 clear hKb6 hN6 hE6 hO6
 refine wp_seq_block_q fun Kb5 Q5 hKb5 hN5 hE5 hO5 => ?_
 have HKb5:=ζ hKb5
 have HN5:=ζ hN5
 have HE5:=ζ hE5
 have HO5:=ζ hO5
 clear hKb5 hN5 hE5 hO5
 refine wp_seq_block_q fun Kb4 Q4 hKb4 hN4 hE4 hO4 => ?_
 have HKb4:=ζ hKb4
 have HN4:=ζ hN4
 have HE4:=ζ hE4
 have HO4:=ζ hO4
 clear hKb4 hN4 hE4 hO4
 refine wp_seq_block_q fun Kb3 Q3 hKb3 hN3 hE3 hO3 => ?_
 have HKb3:=ζ hKb3
 have HN3:=ζ hN3
 have HE3:=ζ hE3
 have HO3:=ζ hO3
 clear hKb3 hN3 hE3 hO3
 refine wp_seq_block_q fun Kb2 Q2 hKb2 hN2 hE2 hO2 => ?_
 have HKb2:=ζ hKb2
 have HN2:=ζ hN2
 have HE2:=ζ hE2
 have HO2:=ζ hO2
 clear hKb2 hN2 hE2 hO2
 refine wp_seq_block_q fun Kb1 Q1 hKb1 hN1 hE1 hO1 => ?_
 have HKb1:=ζ hKb1
 have HN1:=ζ hN1
 have HE1:=ζ hE1
 have HO1:=ζ hO1
 clear hKb1 hN1 hE1 hO1
 have HX7 : Hid (∀ a w,Kb7 a w → Q1 (.exit 7) a w):=fun a w hk => xZ HO1 7 (xZ HO2 7 (xZ HO3 7 (xZ HO4 7 (xZ HO5 7 (xZ HO6 7 (HE7.out a w hk))))))
 have HR7 : Hid (∀ a w,_ → Q0 .ret a w):=fun a w hq => xR HO0 (xR HOT hq)
 have HP7 : Hid (∀ c a w,_ → Q0 (.panic c) a w):=fun c a w hq => xP HO0 (xP HOT hq)
 have HZ7 : Hid (∀ a w,KT a w → Q0 (.exit 0) a w):=fun a w hk => HE0.out a w (HNT.out a w hk)
 have HX6 : Hid (∀ a w,Kb6 a w → Q1 (.exit 6) a w):=fun a w hk => xZ HO1 6 (xZ HO2 6 (xZ HO3 6 (xZ HO4 6 (xZ HO5 6 (HE6.out a w hk)))))
 have HR6 : Hid (∀ a w,_ → Q7 .ret a w):=fun a w hq => xR HO7 (xR HO0 (xR HOT hq))
 have HP6 : Hid (∀ c a w,_ → Q7 (.panic c) a w):=fun c a w hq => xP HO7 (xP HO0 (xP HOT hq))
 have HZ6 : Hid (∀ a w,KT a w → Q7 (.exit 0) a w):=fun a w hk => xZ HO7 0 (HE0.out a w (HNT.out a w hk))
 have HX5 : Hid (∀ a w,Kb5 a w → Q1 (.exit 5) a w):=fun a w hk => xZ HO1 5 (xZ HO2 5 (xZ HO3 5 (xZ HO4 5 (HE5.out a w hk))))
 have HR5 : Hid (∀ a w,_ → Q6 .ret a w):=fun a w hq => xR HO6 (xR HO7 (xR HO0 (xR HOT hq)))
 have HP5 : Hid (∀ c a w,_ → Q6 (.panic c) a w):=fun c a w hq => xP HO6 (xP HO7 (xP HO0 (xP HOT hq)))
 have HZ5 : Hid (∀ a w,KT a w → Q6 (.exit 0) a w):=fun a w hk => xZ HO6 0 (xZ HO7 0 (HE0.out a w (HNT.out a w hk)))
 have HX4 : Hid (∀ a w,Kb4 a w → Q1 (.exit 4) a w):=fun a w hk => xZ HO1 4 (xZ HO2 4 (xZ HO3 4 (HE4.out a w hk)))
 have HR4 : Hid (∀ a w,_ → Q5 .ret a w):=fun a w hq => xR HO5 (xR HO6 (xR HO7 (xR HO0 (xR HOT hq))))
 have HP4 : Hid (∀ c a w,_ → Q5 (.panic c) a w):=fun c a w hq => xP HO5 (xP HO6 (xP HO7 (xP HO0 (xP HOT hq))))
 have HZ4 : Hid (∀ a w,KT a w → Q5 (.exit 0) a w):=fun a w hk => xZ HO5 0 (xZ HO6 0 (xZ HO7 0 (HE0.out a w (HNT.out a w hk))))
 have HX3 : Hid (∀ a w,Kb3 a w → Q1 (.exit 3) a w):=fun a w hk => xZ HO1 3 (xZ HO2 3 (HE3.out a w hk))
 have HR3 : Hid (∀ a w,_ → Q4 .ret a w):=fun a w hq => xR HO4 (xR HO5 (xR HO6 (xR HO7 (xR HO0 (xR HOT hq)))))
 have HP3 : Hid (∀ c a w,_ → Q4 (.panic c) a w):=fun c a w hq => xP HO4 (xP HO5 (xP HO6 (xP HO7 (xP HO0 (xP HOT hq)))))
 have HZ3 : Hid (∀ a w,KT a w → Q4 (.exit 0) a w):=fun a w hk => xZ HO4 0 (xZ HO5 0 (xZ HO6 0 (xZ HO7 0 (HE0.out a w (HNT.out a w hk)))))
 have HX2 : Hid (∀ a w,Kb2 a w → Q1 (.exit 2) a w):=fun a w hk => xZ HO1 2 (HE2.out a w hk)
 have HR2 : Hid (∀ a w,_ → Q3 .ret a w):=fun a w hq => xR HO3 (xR HO4 (xR HO5 (xR HO6 (xR HO7 (xR HO0 (xR HOT hq))))))
 have HP2 : Hid (∀ c a w,_ → Q3 (.panic c) a w):=fun c a w hq => xP HO3 (xP HO4 (xP HO5 (xP HO6 (xP HO7 (xP HO0 (xP HOT hq))))))
 have HZ2 : Hid (∀ a w,KT a w → Q3 (.exit 0) a w):=fun a w hk => xZ HO3 0 (xZ HO4 0 (xZ HO5 0 (xZ HO6 0 (xZ HO7 0 (HE0.out a w (HNT.out a w hk))))))
 have HX1 : Hid (∀ a w,Kb1 a w → Q1 (.exit 1) a w):=fun a w hk => HE1.out a w hk
 have HR1 : Hid (∀ a w,_ → Q2 .ret a w):=fun a w hq => xR HO2 (xR HO3 (xR HO4 (xR HO5 (xR HO6 (xR HO7 (xR HO0 (xR HOT hq)))))))
 have HP1 : Hid (∀ c a w,_ → Q2 (.panic c) a w):=fun c a w hq => xP HO2 (xP HO3 (xP HO4 (xP HO5 (xP HO6 (xP HO7 (xP HO0 (xP HOT hq)))))))
 have HZ1 : Hid (∀ a w,KT a w → Q2 (.exit 0) a w):=fun a w hk => xZ HO2 0 (xZ HO3 0 (xZ HO4 0 (xZ HO5 0 (xZ HO6 0 (xZ HO7 0 (HE0.out a w (HNT.out a w hk)))))))
 have HZx : Hid (∀ a w,KT a w → Q1 (.exit 0) a w):=fun a w hk => xZ HO1 0 (xZ HO2 0 (xZ HO3 0 (xZ HO4 0 (xZ HO5 0 (xZ HO6 0 (xZ HO7 0 (HE0.out a w (HNT.out a w hk))))))))
 clear HE0 HO0 HE7 HO7 HE6 HO6 HE5 HO5 HE4 HO4 HE3 HO3 HE2 HO2 HE1 HO1 HN0 HNT
 refine wp_seq_k fun Kx hKx => ?_
 have HKx:=ζ hKx
 clear hKx
 refine wp_seq_k fun Kr hKr => ?_
 have HKr:=ζ hKr
 clear hKr
 have k_1 : (op == 1) = false:=by simp [HNO.out.1]
 go_wp2
 refine HKr.out _ _ ?_
 clear HKr Kr
 refine wp_seq_k fun Kr hKr => ?_
 have HKr:=ζ hKr
 clear hKr
 have k_2 : (op == 2) = false:=by simp [HNO.out.2.1]
 go_wp2
 refine HKr.out _ _ ?_
 clear HKr Kr
 refine wp_seq_k fun Kr hKr => ?_
 have HKr:=ζ hKr
 clear hKr
 have k_3 : (op == 3) = false:=by simp [HNO.out.2.2.1]
 go_wp2
 refine HKr.out _ _ ?_
 clear HKr Kr
 refine wp_seq_k fun Kr hKr => ?_
 have HKr:=ζ hKr
 clear hKr
 have k_4 : (op == 4) = false:=by simp [HNO.out.2.2.2.1]
 go_wp2
 refine HKr.out _ _ ?_
 clear HKr Kr
 refine wp_seq_k fun Kr hKr => ?_
 have HKr:=ζ hKr
 clear hKr
 have k_16 : (op == 16) = false:=by simp [HNO.out.2.2.2.2.1]
 go_wp2
 refine HKr.out _ _ ?_
 clear HKr Kr
 have k_12 : (op == 12) = false:=by simp [HNO.out.2.2.2.2.2.1]
 have k_13 : (op == 13) = false:=by simp [HNO.out.2.2.2.2.2.2]
 go_wp2
 refine HKx.out _ _ ?_
 clear HKx
 go_wp2
 refine HX7.out _ _ ?_
 refine HKb7.out _ _ ?_
 rw [← HPo.out] at HSc
 go_wp2_with fail
 refine (HSc.out X HM.out).mono ?_
 intro e_ w_ hD
 have hD2:=hD
 rw [HPo.out] at hD2
 obtain ⟨m',_,_,⟨_,rfl,_⟩ | ⟨_,rfl,_⟩⟩:=hD2
 ·refine HP7.out _ _ _ ?_
  exact ⟨rfl,hD⟩
 ·have HD:=ζ hD
  clear hD;go_wp2;refine HR7.out _ _ ?_;refine bodyPost_ret (v:=.int .i64 (nx s t k)) (results_tmp Try.results42 _ _ _) rfl ?_
  exact HD.out
end LW
end Go.Proofs.Ytfbnakmmmphedaa
