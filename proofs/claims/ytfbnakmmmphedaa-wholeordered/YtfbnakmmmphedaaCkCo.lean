/-
  Ck8, Ck9 in one.
-/
import Derived.Test.YtfbnakmmmphedaaCk7o
import Derived.Test.YtfbnakmmmphedaaCpBo
import Derived.Test.YtfbnakmmmphedaaTv7o
set_option linter.unusedVariables false
set_option linter.unusedSimpArgs false
set_option maxRecDepth 100000
set_option maxHeartbeats 4000000
namespace Go.Proofs.Ytfbnakmmmphedaa
open Go.RowKit
namespace LW
open Mc
def bfB (s : Syst) (l : List Ev) (i j : Nat) : Bool:=decide (i ≠ j ∧ Tr.ck s l (Tr.ev l i).who i ≤ Tr.ck s l (Tr.ev l i).who j)
def beE (s : Syst) (l : List Ev) (i j : Int) : Int:=if (Tr.vR s l).2.2 = 0 then (if (0 ≤ i ∧ i < (l.length : Int)) ∧ (0 ≤ j ∧ j < (l.length : Int)) then 0 else 1) else (Tr.vR s l).2.2
def beA (s : Syst) (l : List Ev) (i j : Int) : Bool:=decide (beE s l i j = 0) && bfB s l i.toNat j.toNat
theorem cm_one {o W : World} {G n : Nat} {cl ag : Nat → List Int} {hs : List Value} {v : Oc → Value} (h : CM o W G n cl ag hs v) (j : Nat) (hj : j < n) (x : Int) (hc : cl j = [x]) : ∃ b cap b2 o2 c2,v Oc.li = .slice (some ⟨b,0,none⟩) n cap ∧ W.cell? ⟨b,j,none⟩ = some (.slice (some ⟨b2,o2,none⟩) 1 c2) ∧ W.cell? ⟨b2,o2,none⟩ = some (.int .i64 x):=by
 obtain ⟨b,cap,e,y⟩:=h.liAt j hj
 obtain ⟨a,c,e2,h2⟩:=h.clIs j
 rw [hc] at e2 h2
 rcases h2 with h2 | ⟨b2,o2,rfl,h2⟩
 ·cases h2
 ·have:=h2 0 (by simp)
  rw [Nat.add_zero] at this;exact ⟨b,cap,b2,o2,c,e,by rw [y,e2];rfl,this⟩
theorem own_base8 {s : Syst} {l : List Ev} {k : Nat} (hg : Tr.Gd s l l.length) (hk : k < l.length) : ∃ wn : Nat,(Tr.ev l k).who = (wn : Int) ∧ wn ≤ 512 ∧ wn < Tr.rnC l:=by
 have hfit:=hg k hk
 have h0:=hfit.w0
 have h1:=hfit.w1
 have h2:=Tr.rnC_le k (Nat.le_of_lt hk) (fun j hj => hg j (by omega))
 have h3:=Tr.rnC_mono l (Nat.le_of_lt hk) (Nat.le_refl _)
 rw [List.take_length] at h3
 refine ⟨(Tr.ev l k).who.toNat,?_,?_,?_⟩
 ·have : 0 ≤ (Tr.ev l k).who:=h0
  omega
 ·have : (Tr.ev l k).who < Tr.rnC (l.take k):=h1
  omega
 ·have : (Tr.ev l k).who < Tr.rnC (l.take k):=h1
  omega
theorem pbefore (s : Syst) (pa : Option Addr) (pc : Nat) (ra : Option Addr) (rc : Nat) (la : Option Addr) (lc : Nat) (l : List Ev) (i j : Nat) (w : World) (hs : SyI w s pa ra) (hl : EvI w la lc l) (ho : Ok s) (hg : Tr.Gd s l l.length) (hL : l.length ≤ 40000) (hi : i < l.length) (hj : j < l.length) :
  Calls Try.prog 17 #[.agg #[.slice pa s.progs.length pc,.slice ra s.rooms.length rc,.int .i64 s.groups,.int .i64 s.locks,.int .i64 s.cells,.slice la l.length lc,.int .i64 (Tr.rnC l : Int)],.int .i64 (i : Int),.int .i64 (j : Int)] w fun e w' => e = .returned (.bool (bfB s l i j)) ∧ Below w.heap.size w w':=by
 obtain ⟨wn,hwn,hw5,_⟩:=own_base8 hg hi
 have HLk : Hid (∀ W,Below w.heap.size w W → Calls Try.prog 34 #[.agg #[.slice pa s.progs.length pc,.slice ra s.rooms.length rc,.int .i64 s.groups,.int .i64 s.locks,.int .i64 s.cells,.slice la l.length lc,.int .i64 (Tr.rnC l : Int)]] W (LnQ W s l)):=fun W hW => plinks s pa pc ra rc la lc l W (hs.below hW) (hl.below hW) ho hg hL
 have HCl : Hid (∀ a c ed W,Below w.heap.size w W → EgR W a c ed → Ord ed → (∀ x,x ∈ ed ↔ x ∈ Tr.edF s l l.length) → Calls Try.prog 33 #[.agg #[.slice pa s.progs.length pc,.slice ra s.rooms.length rc,.int .i64 s.groups,.int .i64 s.locks,.int .i64 s.cells,.slice la l.length lc,.int .i64 (Tr.rnC l : Int)],.slice a ed.length c,.agg #[.int .i64 (wn : Int),.int .i64 1]] W (CkQ W s l wn 1)):=fun a c ed W hW h1 h2 h3 => pclocks s pa pc ra rc la lc l wn 1 a c ed W (hl.below hW) ho hg hL (by omega) (by omega) h1 h2 h3
 have HBf : Hid (bfB s l i j = decide (i ≠ j ∧ Tr.ck s l (wn : Int) i ≤ Tr.ck s l (wn : Int) j)):=by show _ = _;unfold bfB;rw [hwn]
 have HCc : Hid (∀ k,k < l.length → (if k < l.length then clL s l wn 1 k else []) = [(Tr.ck s l (wn : Int) k : Int)]):=fun k hk => by
  rw [if_pos hk];unfold clL;simp [List.range_succ]
 obtain ⟨b,off,who,op,a,va,sh,hla,hev,_,_,_,_,x0,x1,x2,x3,x4⟩:=hl.get i hi
 subst hla
 obtain rfl : (wn : Int) = who:=by rw [hev] at hwn;exact hwn.symm
 have hb_ : Below w.heap.size w (w.alloc (.cells #[.slice pa s.progs.length pc,.slice ra s.rooms.length rc,.int .i64 s.groups,.int .i64 s.locks,.int .i64 s.cells,.slice (some ⟨b,off,none⟩) l.length lc,.int .i64 (Tr.rnC l : Int)] 57)):=(Below.refl _ _).alloc (Nat.le_refl _) _
 have x0:=keepC hb_ x0
 have HIj:=ζ hi
 have HJj:=ζ hj
 have qi0 : (0 : Int) ≤ (i : Int):=by omega
 have qi1 : (i : Int) < (l.length : Int):=by omega
 have qj0 : (0 : Int) ≤ (j : Int):=by omega
 have qj1 : (j : Int) < (l.length : Int):=by omega
 clear hs hl ho hg hev hwn hb_ x1 x2 x3 x4 hi hj hw5
 have hA : Below w.heap.size w (w.alloc (.cells #[.slice pa s.progs.length pc,.slice ra s.rooms.length rc,.int .i64 s.groups,.int .i64 s.locks,.int .i64 s.cells,.slice (some ⟨b,off,none⟩) l.length lc,.int .i64 (Tr.rnC l : Int)] 57)):=(Below.refl _ _).alloc (Nat.le_refl _) _
 have N1 : Hid ((w.alloc (.cells #[.slice pa s.progs.length pc,.slice ra s.rooms.length rc,.int .i64 s.groups,.int .i64 s.locks,.int .i64 s.cells,.slice (some ⟨b,off,none⟩) l.length lc,.int .i64 (Tr.rnC l : Int)] 57)).heap[w.heap.size]? = some (.cells #[.slice pa s.progs.length pc,.slice ra s.rooms.length rc,.int .i64 s.groups,.int .i64 s.locks,.int .i64 s.cells,.slice (some ⟨b,off,none⟩) l.length lc,.int .i64 (Tr.rnC l : Int)] 57 (0,0))):=heap_alloc_new w _
 have NB:=ζ hA
 clear hA
 go_enter Try.func17,Try.ntmps17
 refine wp_seq_k fun K hK => ?_
 have HK:=ζ hK
 clear hK
 go_wp2
 refine HK.out _ _ ?_
 clear HK K
 generalize w.alloc _ = X at *
 have HX : Hid (Below X.heap.size X X):=Below.refl _ _
 refine wp_seq_k fun K hK => ?_
 have HK:=ζ hK
 clear hK
 refine wp_region_noPanic ?_
 refine RG.wp_region_L (fun Z => True) (fun Z => Below X.heap.size X Z) [] (by kernel_rfl) ?_
 refine RG.wpL_any fun Ya hY => ?_
 have HTa : Hid (Below X.heap.size X Ya):=by rw [hY];exact below_drewN HX.out 1
 clear hY
 refine RG.wpL_take (fuel:=3) (a':=?Aa) [0,1,3,4,5,6,7,8,9] (by kernel_rfl) (by kernel_rfl) (fun _ _ _ _ _ h => h) HTa.out (fun _ => trivial) ?ra ?_
 case ra =>
  iterate 2
   refine RG.rW (.agg #[.slice pa s.progs.length pc,.slice ra s.rooms.length rc,.int .i64 s.groups,.int .i64 s.locks,.int .i64 s.cells,.slice (some ⟨b,off,none⟩) l.length lc,.int .i64 (Tr.rnC l : Int)]) (fun Z hT => ?_) ?_
   ·obtain ⟨q0,q1,q2,q3,q4,q5,q6⟩:=cellsY7 (blk_keep N1.out hT)
    go_simp
   simp only [Act.put,lA,lB,lC,lD,lE,lF]
  refine RG.rW ?_ (fun Z hT => ?_) ?_
  rotate_left
  ·go_simp
   rfl
  simp only [Act.put,lA,lB,lC,lD,lE,lF]
  refine RG.rW (.slice (some ⟨b,off,none⟩) l.length lc) (fun Z hT => ?_) ?_
  ·obtain ⟨q0,q1,q2,q3,q4,q5,q6⟩:=cellsY7 (blk_keep N1.out hT)
   go_simp
  simp only [Act.put,lA,lB,lC,lD,lE,lF]
  iterate 3
   refine RG.rW ?_ (fun Z hT => ?_) ?_
   rotate_left
   ·go_simp
    rfl
   simp only [Act.put,lA,lB,lC,lD,lE,lF]
  refine RG.rW (.int .i64 (wn : Int)) (fun Z hT => ?_) ?_
  ·have x0:=keepC hT x0
   go_simp
  simp only [Act.put,lA,lB,lC,lD,lE,lF]
  refine RG.rW (.agg #[.int .i64 (wn : Int),.int .i64 1]) (fun Z hT => ?_) ?_
  ·go_simp
  simp only [Act.put,lA,lB,lC,lD,lE,lF]
  exact RG.RunsIf.nil
 refine RG.wpL_step (i:=2) (by kernel_rfl) (by rfl) (by rfl) (fun KX hK => ?_)
 have HK:=ζ hK
 clear hK
 go_simp
 refine (HLk.out Ya (NB.out.trans (HTa.out.mono NB.out.size))).mono ?_
 rintro e_Wa Wa ⟨v1,ed,rfl,hv1,hor,hme,hb⟩
 have HTb : Hid (Below X.heap.size X Wa):=HTa.out.trans (hb.mono HTa.out.size)
 obtain ⟨ea,ec,rfl,hEg⟩:=EgR.of hv1
 clear hv1
 refine HK.out _ _ HTb.out (fun _ => trivial) ?_
 clear HK KX hb
 try simp only [Act.put,lA,lB,lC,lD,lE,lF]
 refine RG.wpL_step (i:=10) (by kernel_rfl) (by rfl) (by rfl) (fun KX hK => ?_)
 have HK:=ζ hK
 clear hK
 go_simp
 refine (HCl.out ea ec ed Wa (NB.out.trans (HTb.out.mono NB.out.size)) hEg hor hme).mono ?_
 rintro e_Wb Wb ⟨oo,G,ag,hs,vv,rfl,hoo,hcm,hb⟩
 have HTc : Hid (Below X.heap.size X Wb):=HTb.out.trans (hb.mono HTb.out.size)
 have HM:=ζ hcm
 obtain ⟨lb,lcp,b2,o2,c2,el,y1,y2⟩:=cm_one hcm i HIj.out _ (HCc.out i HIj.out)
 obtain ⟨lb',lcp',b3,o3,c3,el',y3,y4⟩:=cm_one hcm j HJj.out _ (HCc.out j HJj.out)
 rw [el] at el' ⊢
 injection el' with el1 _ el3
 injection el1 with el1
 injection el1 with el1
 subst el1 el3
 clear hcm el
 refine HK.out _ _ HTc.out (fun _ => trivial) ?_
 clear HK KX hb
 try simp only [Act.put,lA,lB,lC,lD,lE,lF]
 refine RG.wpL_take (fuel:=0) (a':=?Aax) [11] (by kernel_rfl) (by kernel_rfl) (fun _ _ _ _ _ h => h) HTc.out (fun _ => trivial) ?rax ?_
 case rax =>
  refine RG.rW ?_ (fun Z hT => ?_) ?_
  rotate_left
  ·go_simp
   rfl
  simp only [Act.put,lA,lB,lC,lD,lE,lF]
  exact RG.RunsIf.nil
 refine RG.wpL_done (by kernel_rfl) ?_ _
 refine NoPanic.normal ?_
 refine HK.out _ _ ?_
 clear HK
 have NBc : Hid (Below w.heap.size w Wb):=NB.out.trans (HTc.out.mono NB.out.size)
 clear hor hme hEg hoo HTa HTb HTc HM NB N1 HLk HCl HCc x0 HX
 have HX : Hid (Below Wb.heap.size Wb Wb):=Below.refl _ _
 rw [HBf.out]
 obtain ⟨ci,hci⟩ : ∃ ci : Int,((Tr.ck s l (wn : Int) i : Nat) : Int) = ci:=⟨_,rfl⟩
 obtain ⟨cj,hcj⟩ : ∃ cj : Int,((Tr.ck s l (wn : Int) j : Nat) : Int) = cj:=⟨_,rfl⟩
 rw [hci] at y2
 rw [hcj] at y4
 have hdec : decide (i ≠ j ∧ Tr.ck s l (wn : Int) i ≤ Tr.ck s l (wn : Int) j) = (decide (i ≠ j) && decide (ci ≤ cj)):=by
  rw [← hci,← hcj];by_cases h1 : i = j <;> by_cases h2 : Tr.ck s l (wn : Int) i ≤ Tr.ck s l (wn : Int) j <;> simp [h1,h2]
 rw [hdec]
 have HSe : Hid (∀ W,Calls Try.prog 35 #[.int .i64 ci,.int .i64 cj] W fun e w' => e = .returned (.bool (decide (ci ≤ cj))) ∧ Below W.heap.size W w'):=fun W => (pseen ci cj W).mono fun e w' h => ⟨h.1,by rw [h.2];exact Below.refl _ _⟩
 clear hdec hci hcj HBf
 by_cases hij : i = j
 ·have kij : ((i : Int) != (j : Int)) = false:=by simp [hij]
  have kr : (decide (i ≠ j) && decide (ci ≤ cj)) = false:=by simp [hij]
  rw [kr];clear hij kr;refine wp_seq_k fun K hK => ?_
  have HK:=ζ hK
  clear hK;refine wp_region_noPanic ?_
  refine RG.wp_region_L (fun Z => True) (fun Z => Below Wb.heap.size Wb Z) [] (by kernel_rfl) ?_
  refine RG.wpL_any fun Yc hY => ?_
  have HTc : Hid (Below Wb.heap.size Wb Yc):=by rw [hY];exact below_drewN HX.out 1
  clear hY;refine RG.wpL_take (fuel:=0) (a':=?Ac) [0,1,2,3,4,5,6,7,8,9,10,11,12,13,14,15,16,17,18] (by kernel_rfl) (by kernel_rfl) (fun _ _ _ _ _ h => h) HTc.out (fun _ => trivial) ?rc ?_
  case rc =>
   iterate 2
    refine RG.rW ?_ (fun Z hT => ?_) ?_
    rotate_left
    ·go_simp
     rfl
    simp only [Act.put,lA,lB,lC,lD,lE,lF]
   iterate 2
    refine RG.rW (.bool false) (fun Z hT => ?_) ?_
    ·go_simp
    simp only [Act.put,lA,lB,lC,lD,lE,lF]
   iterate 13
    refine RG.RunsIf.skip (by rfl) (by rfl) ?_
    simp only [Act.put,lA,lB,lC,lD,lE,lF]
   refine RG.rW (.bool false) (fun Z hT => ?_) ?_
   ·(go_simp) <;> rfl
   simp only [Act.put,lA,lB,lC,lD,lE,lF]
   refine RG.rW ?_ (fun Z hT => ?_) ?_
   rotate_left
   ·go_simp
    rfl
   simp only [Act.put,lA,lB,lC,lD,lE,lF]
   exact RG.RunsIf.nil
  refine RG.wpL_done (by kernel_rfl) ?_ _
  refine NoPanic.normal ?_
  refine HK.out _ _ ?_;clear HK;go_wp2;go_ret;exact ⟨rfl,NBc.out.trans (HTc.out.mono NBc.out.size)⟩
 ·have kij : ((i : Int) != (j : Int)) = true:=by simp;omega
  have kr : (decide (i ≠ j) && decide (ci ≤ cj)) = decide (ci ≤ cj):=by simp [hij]
  rw [kr];generalize decide (ci ≤ cj) = dd at *;clear hij kr;refine wp_seq_k fun K hK => ?_
  have HK:=ζ hK
  clear hK;refine wp_region_noPanic ?_
  refine RG.wp_region_L (fun Z => True) (fun Z => Below Wb.heap.size Wb Z) [] (by kernel_rfl) ?_
  refine RG.wpL_any fun Yd hY => ?_
  have HTd : Hid (Below Wb.heap.size Wb Yd):=by rw [hY];exact below_drewN HX.out 1
  clear hY;refine RG.wpL_take (fuel:=3) (a':=?Ad) [0,1,2,3,4,5,6,7,8,9,10,11,12,13,14,15] (by kernel_rfl) (by kernel_rfl) (fun _ _ _ _ _ h => h) HTd.out (fun _ => trivial) ?rd ?_
  case rd =>
   iterate 2
    refine RG.rW ?_ (fun Z hT => ?_) ?_
    rotate_left
    ·go_simp
     rfl
    simp only [Act.put,lA,lB,lC,lD,lE,lF]
   iterate 2
    refine RG.rW (.bool true) (fun Z hT => ?_) ?_
    ·go_simp
    simp only [Act.put,lA,lB,lC,lD,lE,lF]
   iterate 3
    refine RG.rW ?_ (fun Z hT => ?_) ?_
    rotate_left
    ·go_simp
     rfl
    simp only [Act.put,lA,lB,lC,lD,lE,lF]
   refine RG.rW (.slice (some ⟨b2,o2,none⟩) 1 c2) (fun Z hT => ?_) ?_
   ·have y1:=keepC hT y1;have y2:=keepC hT y2;have y3:=keepC hT y3;have y4:=keepC hT y4
    go_simp
   simp only [Act.put,lA,lB,lC,lD,lE,lF]
   refine RG.rW ?_ (fun Z hT => ?_) ?_
   rotate_left
   ·go_simp
    rfl
   simp only [Act.put,lA,lB,lC,lD,lE,lF]
   refine RG.rW (.int .i64 ci) (fun Z hT => ?_) ?_
   ·have y1:=keepC hT y1;have y2:=keepC hT y2;have y3:=keepC hT y3;have y4:=keepC hT y4
    go_simp
   simp only [Act.put,lA,lB,lC,lD,lE,lF]
   iterate 3
    refine RG.rW ?_ (fun Z hT => ?_) ?_
    rotate_left
    ·go_simp
     rfl
    simp only [Act.put,lA,lB,lC,lD,lE,lF]
   refine RG.rW (.slice (some ⟨b3,o3,none⟩) 1 c3) (fun Z hT => ?_) ?_
   ·have y1:=keepC hT y1;have y2:=keepC hT y2;have y3:=keepC hT y3;have y4:=keepC hT y4
    go_simp
   simp only [Act.put,lA,lB,lC,lD,lE,lF]
   refine RG.rW ?_ (fun Z hT => ?_) ?_
   rotate_left
   ·go_simp
    rfl
   simp only [Act.put,lA,lB,lC,lD,lE,lF]
   refine RG.rW (.int .i64 cj) (fun Z hT => ?_) ?_
   ·have y1:=keepC hT y1;have y2:=keepC hT y2;have y3:=keepC hT y3;have y4:=keepC hT y4
    go_simp
   simp only [Act.put,lA,lB,lC,lD,lE,lF]
   exact RG.RunsIf.nil
  refine RG.wpL_stepw (i:=16) (by kernel_rfl) (by rfl) (by rfl) (fun KX hK => ?_)
  have HK:=ζ hK
  clear hK;go_simp;refine (HSe.out Yd).mono ?_
  rintro e_Wd Wd ⟨rfl,hb⟩
  have HTe : Hid (Below Wb.heap.size Wb Wd):=HTd.out.trans (hb.mono HTd.out.size)
  refine HK.out _ _ HTe.out (fun _ => trivial) ?_
  clear HK KX hb;try simp only [Act.put,lA,lB,lC,lD,lE,lF]
  refine RG.wpL_take (fuel:=0) (a':=?Adx) [17,18] (by kernel_rfl) (by kernel_rfl) (fun _ _ _ _ _ h => h) HTe.out (fun _ => trivial) ?rdx ?_
  case rdx =>
   iterate 2
    refine RG.rW ?_ (fun Z hT => ?_) ?_
    rotate_left
    ·go_simp
     rfl
    simp only [Act.put,lA,lB,lC,lD,lE,lF]
   exact RG.RunsIf.nil
  refine RG.wpL_done (by kernel_rfl) ?_ _
  refine NoPanic.normal ?_
  refine HK.out _ _ ?_;clear HK;go_wp2;go_ret;exact ⟨rfl,NBc.out.trans (HTe.out.mono NBc.out.size)⟩
end LW
end Go.Proofs.Ytfbnakmmmphedaa
namespace Go.Proofs.Ytfbnakmmmphedaa
open Go.RowKit
namespace LW
open Mc
theorem phas9 (s : Syst) (pa : Option Addr) (pc : Nat) (ra : Option Addr) (rc : Nat) (la : Option Addr) (lc : Nat) (l : List Ev) (rn : Int) (i : Int) (w : World) : Calls Try.prog 16 #[.agg #[.slice pa s.progs.length pc,.slice ra s.rooms.length rc,.int .i64 s.groups,.int .i64 s.locks,.int .i64 s.cells,.slice la l.length lc,.int .i64 rn],.int .i64 i] w fun e w' => e = .returned (.bool (decide (0 ≤ i ∧ i < (l.length : Int)))) ∧ Below w.heap.size w w':=by
 have hA : Below w.heap.size w (w.alloc (.cells #[.slice pa s.progs.length pc,.slice ra s.rooms.length rc,.int .i64 s.groups,.int .i64 s.locks,.int .i64 s.cells,.slice la l.length lc,.int .i64 rn] 57)):=(Below.refl _ _).alloc (Nat.le_refl _) _
 have N1 : Hid ((w.alloc (.cells #[.slice pa s.progs.length pc,.slice ra s.rooms.length rc,.int .i64 s.groups,.int .i64 s.locks,.int .i64 s.cells,.slice la l.length lc,.int .i64 rn] 57)).heap[w.heap.size]? = some (.cells #[.slice pa s.progs.length pc,.slice ra s.rooms.length rc,.int .i64 s.groups,.int .i64 s.locks,.int .i64 s.cells,.slice la l.length lc,.int .i64 rn] 57 (0,0))):=heap_alloc_new w _
 have NB:=ζ hA
 clear hA
 go_enter Try.func16,Try.ntmps16
 refine wp_seq_k fun K hK => ?_
 have HK:=ζ hK
 clear hK
 go_wp2
 refine HK.out _ _ ?_
 clear HK K
 generalize w.alloc _ = X at *
 obtain ⟨q0,q1,q2,q3,q4,q5,q6⟩:=cellsY7 N1.out
 by_cases h1 : 0 ≤ i
 ·by_cases h2 : i < (l.length : Int)
  ·go_wp2
   go_ret;exact ⟨by simp [h1,h2],NB.out⟩
  ·go_wp2
   go_ret;exact ⟨by simp [h1,h2],NB.out⟩
 ·go_wp2
  go_ret;exact ⟨by simp;omega,NB.out⟩
theorem ptbefore (s : Syst) (pa : Option Addr) (pc : Nat) (ra : Option Addr) (rc : Nat) (la : Option Addr) (lc : Nat) (l : List Ev) (i j : Int) (w : World) (hs : SyI w s pa ra) (hl : EvI w la lc l) :
  Calls Try.prog 8 #[.agg #[.slice pa s.progs.length pc,.slice ra s.rooms.length rc,.int .i64 s.groups,.int .i64 s.locks,.int .i64 s.cells],.slice la l.length lc,.int .i64 i,.int .i64 j] w fun e w' => e = .returned (.tuple #[.bool (beA s l i j),.int .i64 (beE s l i j)]) ∧ Below w.heap.size w w':=by
 obtain ⟨POST,hP⟩ : ∃ Q : Ending → World → Prop,Q = fun e w' => e = .returned (.tuple #[.bool (beA s l i j),.int .i64 (beE s l i j)]) ∧ Below w.heap.size w w':=⟨_,rfl⟩
 obtain ⟨va,vn,ve,hV⟩ : ∃ a n e,Tr.vR s l = (a,n,e):=⟨_,_,_,rfl⟩
 have HRd : Hid (∀ W,Below w.heap.size w W → Calls Try.prog 15 #[.agg #[.slice pa s.progs.length pc,.slice ra s.rooms.length rc,.int .i64 s.groups,.int .i64 s.locks,.int .i64 s.cells],.slice la l.length lc] W fun e w' => ∃ hc,e = .returned (.tuple #[.agg hc,.int .i64 va,.int .i64 ve]) ∧ (ve = 0 → hc = #[.slice pa s.progs.length pc,.slice ra s.rooms.length rc,.int .i64 s.groups,.int .i64 s.locks,.int .i64 s.cells,.slice la l.length lc,.int .i64 (Tr.rnC l : Int)]) ∧ (ve ≠ 0 → hc = #[.slice none 0 0,.slice none 0 0,.int .i64 0,.int .i64 0,.int .i64 0,.slice none 0 0,.int .i64 0]) ∧ Below W.heap.size W w'):=fun W hW => (pread s pa pc ra rc la lc l W (hs.below hW) (hl.below hW)).mono (fun e w' h => by unfold ReaQ at h;rw [hV] at h;exact h)
 have HOk : Hid (ve = 0 → Ok s ∧ l.length ≤ 40000 ∧ Tr.Gd s l l.length):=fun h => by
  have h2:=Tr.vR_ok (s:=s) (l:=l) (by rw [hV];exact h)
  exact ⟨h2.1,h2.2.1,h2.2.2.1⟩
 have HPe : Hid (ve ≠ 0 → ∀ W,Below w.heap.size w W → POST (.returned (.tuple #[.bool false,.int .i64 ve])) W):=fun h W hW => by
  rw [hP];have h1 : beE s l i j = ve:=by unfold beE;rw [hV];exact if_neg h
  have h2 : beA s l i j = false:=by unfold beA;rw [h1];simp [h]
  rw [h1,h2];exact ⟨rfl,hW⟩
 have HPa : Hid (ve = 0 → ¬ ((0 ≤ i ∧ i < (l.length : Int)) ∧ (0 ≤ j ∧ j < (l.length : Int))) → ∀ W,Below w.heap.size w W → POST (.returned (.tuple #[.bool false,.int .i64 1])) W):=fun h hi W hW => by
  rw [hP];have h1 : beE s l i j = 1:=by unfold beE;rw [hV];dsimp only;rw [if_pos h,if_neg hi]
  have h2 : beA s l i j = false:=by unfold beA;rw [h1];rfl
  rw [h1,h2];exact ⟨rfl,hW⟩
 have HPo : Hid (ve = 0 → ∀ (k m : Nat),i = (k : Int) → k < l.length → j = (m : Int) → m < l.length → ∀ W,Below w.heap.size w W → POST (.returned (.tuple #[.bool (bfB s l k m),.int .i64 0])) W):=fun h k m e hk e2 hm W hW => by
  rw [hP];have h1 : beE s l i j = 0:=by unfold beE;rw [hV];dsimp only;rw [if_pos h,if_pos (by omega)]
  have h2 : beA s l i j = bfB s l k m:=by unfold beA;rw [h1,e,e2];simp
  rw [h1,h2];exact ⟨rfl,hW⟩
 rw [← hP]
 have HEw:=ζ hl
 have HSw:=ζ hs
 clear hP hs hl hV
 have hA : Below w.heap.size w (w.alloc (.cells #[.slice pa s.progs.length pc,.slice ra s.rooms.length rc,.int .i64 s.groups,.int .i64 s.locks,.int .i64 s.cells] 30)):=(Below.refl _ _).alloc (Nat.le_refl _) _
 have N1 : Hid ((w.alloc (.cells #[.slice pa s.progs.length pc,.slice ra s.rooms.length rc,.int .i64 s.groups,.int .i64 s.locks,.int .i64 s.cells] 30)).heap[w.heap.size]? = some (.cells #[.slice pa s.progs.length pc,.slice ra s.rooms.length rc,.int .i64 s.groups,.int .i64 s.locks,.int .i64 s.cells] 30 (0,0))):=heap_alloc_new w _
 have NB:=ζ hA
 clear hA
 go_enter Try.func8,Try.ntmps8
 refine wp_seq_k fun K hK => ?_
 have HK:=ζ hK
 clear hK
 go_wp2
 refine HK.out _ _ ?_
 clear HK K
 generalize w.alloc _ = X at *
 obtain ⟨s0,s1,s2,s3,s4⟩:=cellsY5 N1.out
 go_wp2_with fail
 refine (HRd.out X NB.out).mono ?_
 rintro e1 W1 ⟨hc,rfl,h1,h2,hb⟩
 have NB1 : Hid (Below w.heap.size w W1):=NB.out.trans (hb.mono NB.out.size)
 have NS:=ζ (blk_keep N1.out hb)
 clear hb NB N1 s0 s1 s2 s3 s4 HRd
 by_cases he : ve = 0
 ·obtain rfl:=h1 he
  obtain ⟨ho,hn,hg⟩:=HOk.out he
  have NB2 : Hid (Below w.heap.size w ((W1.alloc (.cells #[.slice none 0 0,.slice none 0 0,.int .i64 0,.int .i64 0,.int .i64 0,.slice none 0 0,.int .i64 0] 57)).setRow W1.heap.size #[.slice pa s.progs.length pc,.slice ra s.rooms.length rc,.int .i64 s.groups,.int .i64 s.locks,.int .i64 s.cells,.slice la l.length lc,.int .i64 (Tr.rnC l : Int)])):=below_setRow (NB1.out.alloc NB1.out.size _) NB1.out.size
  have hA_ : Below W1.heap.size W1 ((W1.alloc (.cells #[.slice none 0 0,.slice none 0 0,.int .i64 0,.int .i64 0,.int .i64 0,.slice none 0 0,.int .i64 0] 57)).setRow W1.heap.size #[.slice pa s.progs.length pc,.slice ra s.rooms.length rc,.int .i64 s.groups,.int .i64 s.locks,.int .i64 s.cells,.slice la l.length lc,.int .i64 (Tr.rnC l : Int)]):=below_setRow ((Below.refl _ _).alloc (Nat.le_refl _) _) (Nat.le_refl _)
  have NS2:=ζ (blk_keep NS.out hA_)
  have N2 : Hid (((W1.alloc (.cells #[.slice none 0 0,.slice none 0 0,.int .i64 0,.int .i64 0,.int .i64 0,.slice none 0 0,.int .i64 0] 57)).setRow W1.heap.size #[.slice pa s.progs.length pc,.slice ra s.rooms.length rc,.int .i64 s.groups,.int .i64 s.locks,.int .i64 s.cells,.slice la l.length lc,.int .i64 (Tr.rnC l : Int)]).heap[W1.heap.size]? = some (.cells #[.slice pa s.progs.length pc,.slice ra s.rooms.length rc,.int .i64 s.groups,.int .i64 s.locks,.int .i64 s.cells,.slice la l.length lc,.int .i64 (Tr.rnC l : Int)] 57 (0,0))):=setRow_heap _ _ _ _ _ _ (heap_alloc_new W1 _)
  clear hA_ NS;have HHs : Hid (∀ (x : Int) W,Calls Try.prog 16 #[.agg #[.slice pa s.progs.length pc,.slice ra s.rooms.length rc,.int .i64 s.groups,.int .i64 s.locks,.int .i64 s.cells,.slice la l.length lc,.int .i64 (Tr.rnC l : Int)],.int .i64 x] W fun e w' => e = .returned (.bool (decide (0 ≤ x ∧ x < (l.length : Int)))) ∧ Below W.heap.size W w'):=fun x W => phas9 s pa pc ra rc la lc l _ x W
  have HBe : Hid (∀ k m : Nat,k < l.length → m < l.length → ∀ W,Below w.heap.size w W → Calls Try.prog 17 #[.agg #[.slice pa s.progs.length pc,.slice ra s.rooms.length rc,.int .i64 s.groups,.int .i64 s.locks,.int .i64 s.cells,.slice la l.length lc,.int .i64 (Tr.rnC l : Int)],.int .i64 (k : Int),.int .i64 (m : Int)] W fun e w' => e = .returned (.bool (bfB s l k m)) ∧ Below W.heap.size W w'):=fun k m hk hm W hW => pbefore s pa pc ra rc la lc l k m W (HSw.out.below hW) (HEw.out.below hW) ho hg hn hk hm
  have HPa':=ζ (HPa.out he)
  have HPo':=ζ (HPo.out he)
  subst he;clear h1 h2 ho hn hg HOk HPe HPa HPo HEw HSw;go_wp2_with (first | (refine wpList_store_row (by rfl) 57 _ _ (by rfl) W1.heap.size #[.slice pa s.progs.length pc,.slice ra s.rooms.length rc,.int .i64 s.groups,.int .i64 s.locks,.int .i64 s.cells,.slice la l.length lc,.int .i64 (Tr.rnC l : Int)] (by rfl) (by rfl) 57 _ (heap_alloc_new W1 _) (by kernel_rfl) (by rfl) (by simp [Value.oneCell']) ?_;generalize World.setRow _ _ _ = X2 at *;generalize W1.heap.size = g2 at *;obtain ⟨q0,q1,q2,q3,q4,q5,q6⟩:=cellsY7 N2.out;obtain ⟨r0,r1,r2,r3,r4⟩:=cellsY5 NS2.out) | fail)
  refine (HHs.out i X2).mono ?_
  rintro e3 W3 ⟨rfl,hb⟩
  have NB3 : Hid (Below w.heap.size w W3):=NB2.out.trans (hb.mono NB2.out.size)
  have N3:=ζ (blk_keep N2.out hb)
  clear hb q0 q1 q2 q3 q4 q5 q6 r0 r1 r2 r3 r4 N2 NS2 NB2;obtain ⟨q0,q1,q2,q3,q4,q5,q6⟩:=cellsY7 N3.out
  by_cases hi : 0 ≤ i ∧ i < (l.length : Int)
  ·have kd : (decide (0 ≤ i ∧ i < (l.length : Int))) = true:=decide_eq_true hi
   rw [kd];clear kd;go_wp2_with fail
   refine (HHs.out j W3).mono ?_
   rintro e4 W4 ⟨rfl,hb⟩
   have NB4 : Hid (Below w.heap.size w W4):=NB3.out.trans (hb.mono NB3.out.size)
   have N4:=ζ (blk_keep N3.out hb)
   clear hb q0 q1 q2 q3 q4 q5 q6 N3 NB3;obtain ⟨q0,q1,q2,q3,q4,q5,q6⟩:=cellsY7 N4.out
   by_cases hj : 0 ≤ j ∧ j < (l.length : Int)
   ·have kd : (decide (0 ≤ j ∧ j < (l.length : Int))) = true:=decide_eq_true hj
    rw [kd];obtain ⟨k,rfl⟩ : ∃ k : Nat,i = (k : Int):=⟨i.toNat,by omega⟩
    obtain ⟨m,rfl⟩ : ∃ m : Nat,j = (m : Int):=⟨j.toNat,by omega⟩
    have hk : k < l.length:=by omega
    have hm : m < l.length:=by omega
    have HH:=ζ (HBe.out k m hk hm W4 NB4.out)
    have HPk:=ζ (HPo'.out k m rfl hk rfl hm)
    clear kd hi hj hk hm HBe HPo' HPa' HHs;go_wp2_with fail
    refine HH.out.mono ?_
    rintro e5 W5 ⟨rfl,hb⟩
    have HR:=ζ (HPk.out W5 (NB4.out.trans (hb.mono NB4.out.size)))
    clear hb HPk HH;go_wp2;first | exact HR.out | exact ⟨rfl,HR.out⟩
   ·have kd : (decide (0 ≤ j ∧ j < (l.length : Int))) = false:=decide_eq_false hj
    have HR:=ζ (HPa'.out (fun h => hj h.2) W4 NB4.out)
    rw [kd];clear hi hj kd HBe HPo' HPa' HHs;go_wp2;first | exact HR.out | exact ⟨rfl,HR.out⟩
  ·have kd : (decide (0 ≤ i ∧ i < (l.length : Int))) = false:=decide_eq_false hi
   have HR:=ζ (HPa'.out (fun h => hi h.1) W3 NB3.out)
   rw [kd];clear hi kd HBe HPo' HPa' HHs;go_wp2;first | exact HR.out | exact ⟨rfl,HR.out⟩
 ·obtain rfl:=h2 he
  have NB2 : Hid (Below w.heap.size w ((W1.alloc (.cells #[.slice none 0 0,.slice none 0 0,.int .i64 0,.int .i64 0,.int .i64 0,.slice none 0 0,.int .i64 0] 57)).setRow W1.heap.size #[.slice none 0 0,.slice none 0 0,.int .i64 0,.int .i64 0,.int .i64 0,.slice none 0 0,.int .i64 0])):=below_setRow (NB1.out.alloc NB1.out.size _) NB1.out.size
  have hA_ : Below W1.heap.size W1 ((W1.alloc (.cells #[.slice none 0 0,.slice none 0 0,.int .i64 0,.int .i64 0,.int .i64 0,.slice none 0 0,.int .i64 0] 57)).setRow W1.heap.size #[.slice none 0 0,.slice none 0 0,.int .i64 0,.int .i64 0,.int .i64 0,.slice none 0 0,.int .i64 0]):=below_setRow ((Below.refl _ _).alloc (Nat.le_refl _) _) (Nat.le_refl _)
  have NS2:=ζ (blk_keep NS.out hA_)
  have N2 : Hid (((W1.alloc (.cells #[.slice none 0 0,.slice none 0 0,.int .i64 0,.int .i64 0,.int .i64 0,.slice none 0 0,.int .i64 0] 57)).setRow W1.heap.size #[.slice none 0 0,.slice none 0 0,.int .i64 0,.int .i64 0,.int .i64 0,.slice none 0 0,.int .i64 0]).heap[W1.heap.size]? = some (.cells #[.slice none 0 0,.slice none 0 0,.int .i64 0,.int .i64 0,.int .i64 0,.slice none 0 0,.int .i64 0] 57 (0,0))):=setRow_heap _ _ _ _ _ _ (heap_alloc_new W1 _)
  clear hA_ NS;have HPe':=ζ (HPe.out he)
  have kv : (ve != 0) = true:=by simp [he]
  clear he h1 h2 HOk HPe HPa HPo HEw HSw;go_wp2_with (first | (refine wpList_store_row (by rfl) 57 _ _ (by rfl) W1.heap.size #[.slice none 0 0,.slice none 0 0,.int .i64 0,.int .i64 0,.int .i64 0,.slice none 0 0,.int .i64 0] (by rfl) (by rfl) 57 _ (heap_alloc_new W1 _) (by kernel_rfl) (by rfl) (by simp [Value.oneCell']) ?_;generalize World.setRow _ _ _ = X2 at *;generalize W1.heap.size = g2 at *;obtain ⟨q0,q1,q2,q3,q4,q5,q6⟩:=cellsY7 N2.out;obtain ⟨r0,r1,r2,r3,r4⟩:=cellsY5 NS2.out) | fail)
  have HR:=ζ (HPe'.out X2 NB2.out)
  first | exact HR.out | exact ⟨rfl,HR.out⟩
end LW
end Go.Proofs.Ytfbnakmmmphedaa
