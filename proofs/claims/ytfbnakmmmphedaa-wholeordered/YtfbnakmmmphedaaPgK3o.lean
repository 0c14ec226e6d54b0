/-
 What the program's Play tells, with the room behind it.
-/
import Derived.Test.YtfbnakmmmphedaaPlT2o
set_option linter.unusedVariables false
set_option linter.unusedSimpArgs false
namespace Go.Proofs.Ytfbnakmmmphedaa
open Go.RowKit
namespace LW
open Mc
theorem own_caps {W : World} {B n k : Nat} {t : TypeId} {v : Value} {ys : List Value} (h : W.ownsRow B t k v n ys) : ∃ a c,v = .slice a n c ∧ n ≤ c ∧ c ≤ 9223372036854775807 ∧ (a = none → c = 0):=by
 rcases h.2 with ⟨rfl,h0⟩ | ⟨g,cap,cur,rfl,_,_,hn,hm,_⟩
 ·exact ⟨none,0,by rw [h0],by omega,by omega,fun _ => rfl⟩
 ·exact ⟨_,cap,rfl,hn,by unfold maxLen at hm;omega,fun e => by cases e⟩
def RunC (W : World) (r : Int × Int × St) (cs : Array Value) : Prop:=∃ ea ec ca cc,cs = #[.int .i64 r.1,.int .i64 r.2.1,.slice ea r.2.2.evs.length ec,.int .i64 (r.2.2.rns.length : Int),.slice ca r.2.2.cells.length cc] ∧ ER W ea r.2.2.evs ∧ NR W ca r.2.2.cells ∧ (r.2.2.evs.length ≤ ec ∧ ec ≤ 9223372036854775807 ∧ (ea = none → ec = 0))
def PlaC (w : World) (s : Syst) (picks : List Int) : Ending → World → Prop:=fun e w' => ∃ (cs : Array Value) (x : Int) (r : Int × Int × St),e = .returned (.tuple #[.agg cs,.int .i64 x]) ∧ RunC w' r cs ∧ Below w.heap.size w w' ∧ (Ok s → x = 0 ∧ r = Mc.play s picks) ∧ (¬ Ok s → x = 130 ∧ r = (0,0,s00))
def PPlayC : Prop:=∀ (s : Syst) (pa : Option Addr) (pc : Nat) (ra : Option Addr) (rc : Nat) (a : Option Addr) (c : Nat) (picks : List Int) (w : World),SyI w s pa ra → PkI w a c picks → Calls Try.prog 7 #[.agg (syC s pa pc ra rc),.slice a picks.length c] w (PlaC w s picks)
set_option maxRecDepth 100000 in
set_option maxHeartbeats 4000000 in
theorem pplayC : PPlayC:=by
 intro s pa pc ra rc a c picks w hs hp
 obtain ⟨POST,hP⟩ : ∃ P,P = PlaC w s picks:=⟨_,rfl⟩
 have HPo:=ζ hP
 rw [← hP]
 clear hP
 unfold syC
 have hA : Below w.heap.size w ((w.alloc (.cells #[.slice pa s.progs.length pc,.slice ra s.rooms.length rc,.int .i64 s.groups,.int .i64 s.locks,.int .i64 s.cells] 30)).alloc (.cells #[.int .i64 0,.int .i64 0,.slice none 0 0,.int .i64 0,.slice none 0 0] 35)):=((Below.refl _ _).alloc (Nat.le_refl _) _).alloc (by simp) _
 have N1 : Hid (((w.alloc (.cells #[.slice pa s.progs.length pc,.slice ra s.rooms.length rc,.int .i64 s.groups,.int .i64 s.locks,.int .i64 s.cells] 30)).alloc (.cells #[.int .i64 0,.int .i64 0,.slice none 0 0,.int .i64 0,.slice none 0 0] 35)).heap[w.heap.size]? = some (.cells #[.slice pa s.progs.length pc,.slice ra s.rooms.length rc,.int .i64 s.groups,.int .i64 s.locks,.int .i64 s.cells] 30 (0,0))):=blk_alloc (heap_alloc_new w _)
 have N2 : Hid (((w.alloc (.cells #[.slice pa s.progs.length pc,.slice ra s.rooms.length rc,.int .i64 s.groups,.int .i64 s.locks,.int .i64 s.cells] 30)).alloc (.cells #[.int .i64 0,.int .i64 0,.slice none 0 0,.int .i64 0,.slice none 0 0] 35)).heap[w.heap.size + 1]? = some (.cells #[.int .i64 0,.int .i64 0,.slice none 0 0,.int .i64 0,.slice none 0 0] 35 (0,0))):=by
  have h1:=heap_alloc_new (w.alloc (.cells #[.slice pa s.progs.length pc,.slice ra s.rooms.length rc,.int .i64 s.groups,.int .i64 s.locks,.int .i64 s.cells] 30)) (.cells #[.int .i64 0,.int .i64 0,.slice none 0 0,.int .i64 0,.slice none 0 0] 35)
  have h2 : (w.alloc (.cells #[.slice pa s.progs.length pc,.slice ra s.rooms.length rc,.int .i64 s.groups,.int .i64 s.locks,.int .i64 s.cells] 30)).heap.size = w.heap.size + 1:=by simp
  rw [h2] at h1;exact h1
 have HBV:=ζ hA
 have HSy:=ζ (hs.below hA)
 have HPk:=ζ (hp.below hA)
 have HV : Hid (∀ W,SyI W s pa ra → Calls Try.prog 12 #[.agg #[.slice pa s.progs.length pc,.slice ra s.rooms.length rc,.int .i64 s.groups,.int .i64 s.locks,.int .i64 s.cells]] W fun e w' => ∃ x : Int,e = .returned (.int .i64 x) ∧ (Ok s → x = 0) ∧ (¬ Ok s → x = 130) ∧ Below W.heap.size W w'):=fun W hW => pvalid s pa pc ra rc W hW
 have HBg : Hid (∀ W,SyI W s pa ra → Mc.Ok s → Calls Try.prog 13 #[.agg #[.slice pa s.progs.length pc,.slice ra s.rooms.length rc,.int .i64 s.groups,.int .i64 s.locks,.int .i64 s.cells]] W fun e w' => ∃ gm m,e = .returned (.pointer (some ⟨gm,0,none⟩)) ∧ PM W w' gm s pa pc (Mc.first s) m ∧ m.gb = none):=fun W hW ho => PPlay_of_begin s pa pc ra rc W hW ho
 clear hA hs hp
 go_enter Try.func7,Try.ntmps7
 refine wp_seq_k fun K0 hK0 => ?_
 have HK0:=ζ hK0
 clear hK0
 go_wp2
 refine HK0.out _ _ ?_
 clear HK0 K0
 have hsV:=HBV.out.size
 generalize World.alloc _ _ = V at *
 generalize hbR : w.heap.size + 1 = bR at *
 obtain ⟨s0,s1,s2,s3,s4⟩:=cellsY5 N1.out
 refine wp_seq_k fun K0 hK0 => ?_
 have HK0:=ζ hK0
 clear hK0
 refine wp_seq_k fun K1 hK1 => ?_
 have HK1:=ζ hK1
 clear hK1
 go_wp2_with fail
 refine (HV.out _ HSy.out).mono ?_
 rintro e1 w1 ⟨x,rfl,hx1,hx2,hb⟩
 have HB1 : Hid (Below w.heap.size w w1):=HBV.out.trans (hb.mono HBV.out.size)
 have NS:=ζ (blk_keep N1.out hb)
 have NR_:=ζ (blk_keep N2.out hb)
 have HSy1:=ζ (HSy.out.below hb)
 have HPk1:=ζ (HPk.out.below hb)
 have HX1:=ζ hx1
 have HX2:=ζ hx2
 clear hb hx1 hx2 s0 s1 s2 s3 s4 N1 N2 HSy HPk HV HBV
 go_wp2
 refine HK1.out _ _ ?_
 clear HK1 K1
 by_cases hok : Mc.Ok s
 ·obtain rfl:=HX1.out hok
  have HOk:=ζ hok
  obtain ⟨s0,s1,s2,s3,s4⟩:=cellsY5 NS.out
  have HCb:=ζ (HBg.out w1 HSy1.out hok)
  have HNm:=ζ HSy1.out.nm
  clear hok HX1 HX2 HBg;go_wp2;refine HK0.out _ _ ?_;clear HK0 K0;refine wp_seq_k fun K0 hK0 => ?_
  have HK0:=ζ hK0
  clear hK0;go_wp2_with fail
  refine HCb.out.mono ?_
  rintro e2 w2 ⟨gm,m,rfl,hM,hgb⟩
  have HCr:=ζ (prun (t:=Mc.first s) a c picks w2 hM hgb HOk.out HNm.out HPk1.out.nr (by have:=HPk1.out.ln;omega) HPk1.out.i6)
  clear hM hgb HCb s0 s1 s2 s3 s4;go_wp2;refine HK0.out _ _ ?_;clear HK0 K0;refine wp_seq_k fun K0 hK0 => ?_
  have HK0:=ζ hK0
  clear hK0;go_wp2_with fail
  refine HCr.out.mono ?_
  rintro e3 w3 ⟨t',m',rfl,ht',hM⟩
  obtain ⟨en,hen⟩ : ∃ en,(Mc.play s picks).1 = en:=⟨_,rfl⟩
  obtain ⟨fl,hfl⟩ : ∃ fl,(Mc.play s picks).2.1 = fl:=⟨_,rfl⟩
  have HPy : Hid (Mc.play s picks = (en,fl,t')):=by show _ = _;rw [← hen,← hfl,← ht']
  rw [hen,hfl];have HM:=ζ hM
  clear hM ht' hen hfl HCr;go_wp2;refine HK0.out _ _ ?_;clear HK0 K0;obtain ⟨xa,xc,ex⟩:=own_open13 HM.out.evs
  obtain ⟨ya,yc,ey⟩:=own_open13 HM.out.cel
  obtain ⟨za,zc,ez⟩:=own_open13 HM.out.rns
  have c6:=HM.out.c6
  have c5:=HM.out.c5
  have c1:=HM.out.c1
  rw [ex] at c6;rw [ey] at c5;rw [ez] at c1;have NR3:=ζ (blk_keep NR_.out HM.out.bl)
  have HB3 : Hid (Below w.heap.size w w3):=HB1.out.trans (HM.out.bl.mono HB1.out.size)
  have HER : Hid (ER w3 xa t'.evs):=by
   have h1:=HM.out.evs
   obtain ⟨a_,c_,e_,h2⟩:=er_own h1
   rw [ex] at e_;injection e_ with e_
   rw [e_];exact h2
  have HNR : Hid (NR w3 ya t'.cells):=by
   have h1:=HM.out.cel
   obtain ⟨a_,c_,e_,h2⟩:=nr_own h1
   rw [ey] at e_;injection e_ with e_
   rw [e_];exact h2
  have HFx : Hid (t'.evs.length ≤ xc ∧ xc ≤ 9223372036854775807 ∧ (xa = none → xc = 0)):=by
   obtain ⟨a_,c_,e_,h1_,h2_,h3_⟩:=own_caps HM.out.evs
   rw [ex] at e_;injection e_ with e1_ e2_ e3_
   subst e1_ e3_;exact ⟨h1_,h2_,h3_⟩
  have HEV : Hid (m'.ev.ownBlock ≠ some bR ∧ m'.cv.ownBlock ≠ some bR):=⟨own_neB HM.out.evs NR3.out (by decide),own_neB HM.out.cel NR3.out (by decide)⟩
  rw [ex,ey] at HEV;obtain ⟨xn,hxn⟩ : ∃ xn,t'.evs.length = xn:=⟨_,rfl⟩
  obtain ⟨yn,hyn⟩ : ∃ yn,t'.cells.length = yn:=⟨_,rfl⟩
  obtain ⟨rl,hrl⟩ : ∃ rl,t'.rns.length = rl:=⟨_,rfl⟩
  have HXN:=ζ hxn
  have HYN:=ζ hyn
  have HRL:=ζ hrl
  rw [hxn] at c6 HEV;rw [hyn] at c5 HEV;rw [hrl] at c1;clear ex ey ez hxn hyn hrl HM NR_;have HX : Hid (Below w3.heap.size w3 w3):=Below.refl _ _
  refine wp_seq_k fun K0 hK0 => ?_
  have HK0:=ζ hK0
  clear hK0;refine wp_region_noPanic ?_
  refine RG.wp_region_L (fun Z => Below w3.heap.size w3 Z) (fun Z => True) [16] (by kernel_rfl) ?_
  refine RG.wpL_any fun Yz53 hY => ?_
  have HTz53 : Hid (Below w3.heap.size w3 Yz53):=by rw [hY];exact below_drewN (Below.refl _ _) 1
  clear hY;refine RG.wpL_take (fuel:=2) (a':=?Az53) [0,1,2,3,4,5,6,7,8,9,10,11,12,13,14,15] (by kernel_rfl) (by kernel_rfl) (fun _ _ _ _ _ h => h) trivial (fun _ => HTz53.out) ?rz53 ?_
  case rz53 =>
   iterate 5
    refine RG.rW ?_ (fun Z hT => ?_) ?_
    rotate_left
    ·go_simp
     rfl
    simp only [Act.put,lA,lB,lC,lD,lE,lF]
   refine RG.RunsIf.strong (v:=.slice xa xn xc) (by rfl) (by kernel_rfl) (by rfl) (fun Z hT hS => ?_) ?_
   ·have y6:=keepC hS c6;have y5:=keepC hS c5;have y1:=keepC hS c1
    go_simp
   simp only [Act.put,lA,lB,lC,lD,lE,lF]
   iterate 3
    refine RG.rW ?_ (fun Z hT => ?_) ?_
    rotate_left
    ·go_simp
     rfl
    simp only [Act.put,lA,lB,lC,lD,lE,lF]
   refine RG.RunsIf.strong (v:=.slice za rl zc) (by rfl) (by kernel_rfl) (by rfl) (fun Z hT hS => ?_) ?_
   ·have y6:=keepC hS c6;have y5:=keepC hS c5;have y1:=keepC hS c1
    go_simp
   simp only [Act.put,lA,lB,lC,lD,lE,lF]
   iterate 4
    refine RG.rW ?_ (fun Z hT => ?_) ?_
    rotate_left
    ·go_simp
     rfl
    simp only [Act.put,lA,lB,lC,lD,lE,lF]
   refine RG.RunsIf.strong (v:=.slice ya yn yc) (by rfl) (by kernel_rfl) (by rfl) (fun Z hT hS => ?_) ?_
   ·have y6:=keepC hS c6;have y5:=keepC hS c5;have y1:=keepC hS c1
    go_simp
   simp only [Act.put,lA,lB,lC,lD,lE,lF]
   refine RG.rW (.agg #[.int .i64 en,.int .i64 fl,.slice xa xn xc,.int .i64 (rl : Int),.slice ya yn yc]) (fun Z hT => ?_) ?_
   ·go_simp
   simp only [Act.put,lA,lB,lC,lD,lE,lF]
   exact RG.RunsIf.nil
  have hrow:=blk_keep NR3.out HTz53.out
  have HZ2 : Hid ((Yz53.setRow bR #[.int .i64 en,.int .i64 fl,.slice xa xn xc,.int .i64 (rl : Int),.slice ya yn yc]).heap[bR]? = some (.cells #[.int .i64 en,.int .i64 fl,.slice xa xn xc,.int .i64 (rl : Int),.slice ya yn yc] 35 (0,0))):=setRow_heap _ _ _ _ _ _ hrow
  have HRo:=ζ hrow
  have HBe : Hid (Below w.heap.size w (Yz53.setRow bR #[.int .i64 en,.int .i64 fl,.slice xa xn xc,.int .i64 (rl : Int),.slice ya yn yc])):=below_setRow (HB3.out.trans (HTz53.out.mono HB3.out.size)) (by omega)
  have HRL2 : Hid (RunC (Yz53.setRow bR #[.int .i64 en,.int .i64 fl,.slice xa xn xc,.int .i64 (rl : Int),.slice ya yn yc]) (en,fl,t') #[.int .i64 en,.int .i64 fl,.slice xa xn xc,.int .i64 (rl : Int),.slice ya yn yc]):=by
   have hsr : ∀ b,b ≠ bR → (Yz53.setRow bR #[.int .i64 en,.int .i64 fl,.slice xa xn xc,.int .i64 (rl : Int),.slice ya yn yc]).heap[b]? = Yz53.heap[b]?:=fun b hb => setRow_other _ _ _ _ (by omega)
   refine ⟨xa,xc,ya,yc,by rw [HXN.out,HYN.out,HRL.out],?_,?_,HFx.out⟩
   ·rcases HER.out.below HTz53.out with h | ⟨b,off,e,hc⟩
    ·exact .inl h
    ·have hb : b ≠ bR:=by
      rintro rfl
      exact HEV.out.1 (by rw [e];simp [Value.ownBlock])
     refine .inr ⟨b,off,e,fun j hj => ?_⟩
     obtain ⟨h0,h1,h2,h3,h4⟩:=hc j hj
     exact ⟨by rw [cell_of (hsr b hb)];exact h0,by rw [cell_of (hsr b hb)];exact h1,by rw [cell_of (hsr b hb)];exact h2,by rw [cell_of (hsr b hb)];exact h3,by rw [cell_of (hsr b hb)];exact h4⟩
   ·rcases HNR.out.below HTz53.out with h | ⟨b,off,e,hc⟩
    ·exact .inl h
    ·have hb : b ≠ bR:=by
      rintro rfl
      exact HEV.out.2 (by rw [e];simp [Value.ownBlock])
     exact .inr ⟨b,off,e,fun j hj => by rw [cell_of (hsr b hb)];exact hc j hj⟩
  refine RG.wpL_late (i:=16) (by kernel_rfl) (by rfl) (by rfl) (by kernel_rfl) (fun KX hK => ?_)
  have HK:=ζ hK
  clear hK;refine wp_store_row 35 _ _ (by rfl) bR #[.int .i64 en,.int .i64 fl,.slice xa xn xc,.int .i64 (rl : Int),.slice ya yn yc] (by rfl) (by rfl) 35 _ HRo.out (by kernel_rfl) (by rfl) (by simp [Value.oneCell']) ?_
  simp only [Act.put,lA,lB,lC,lD,lE,lF]
  refine HK.out _ _ trivial ?_
  clear HK KX hrow HRo;generalize Yz53.setRow bR #[.int .i64 en,.int .i64 fl,.slice xa xn xc,.int .i64 (rl : Int),.slice ya yn yc] = Yz at *;refine RG.wpL_take (fuel:=0) (a':=?Az55) [17] (by kernel_rfl) (by kernel_rfl) (fun _ _ _ _ _ h => h) trivial (fun h => by cases (show false = true from h)) ?rz55 ?_
  case rz55 =>
   refine RG.rW ?_ (fun Z hT => ?_) ?_
   rotate_left
   ·go_simp
    rfl
   simp only [Act.put,lA,lB,lC,lD,lE,lF]
   exact RG.RunsIf.nil
  refine RG.wpL_done (by kernel_rfl) ?_ _
  refine NoPanic.normal ?_
  refine HK0.out _ _ ?_;go_wp2_with fail
  refine bodyPost_ret (v:=.tuple #[.agg #[.int .i64 en,.int .i64 fl,.slice xa xn xc,.int .i64 (rl : Int),.slice ya yn yc],.int .i64 0]) (results_row_tmp (P:=Try.prog) Try.results7 _ _ bR 35 _ (0,0) _ _ (by rfl) (by rfl) HZ2.out Try.underlying35 rfl (by kernel_rfl)) rfl ?_
  rw [HPo.out];exact ⟨_,0,(en,fl,t'),rfl,HRL2.out,HBe.out,fun _ => ⟨rfl,HPy.out.symm⟩,fun h => absurd HOk.out h⟩
 ·obtain rfl:=HX2.out hok
  have HNo:=ζ hok
  have HZ2 : Hid ((w1.setRow bR #[.int .i64 0,.int .i64 0,.slice none 0 0,.int .i64 0,.slice none 0 0]).heap[bR]? = some (.cells #[.int .i64 0,.int .i64 0,.slice none 0 0,.int .i64 0,.slice none 0 0] 35 (0,0))):=setRow_heap _ _ _ _ _ _ NR_.out
  clear hok HX1 HX2 HBg;go_wp2_with (refine wpList_store_row (by rfl) 35 _ _ (by rfl) bR #[.int .i64 0,.int .i64 0,.slice none 0 0,.int .i64 0,.slice none 0 0] (by rfl) (by rfl) 35 _ NR_.out (by kernel_rfl) (by rfl) (by simp [Value.oneCell']) ?_)
  refine bodyPost_ret (v:=.tuple #[.agg #[.int .i64 0,.int .i64 0,.slice none 0 0,.int .i64 0,.slice none 0 0],.int .i64 130]) (results_row_tmp (P:=Try.prog) Try.results7 _ _ bR 35 _ (0,0) _ _ (by rfl) (by rfl) HZ2.out Try.underlying35 rfl (by kernel_rfl)) rfl ?_
  rw [HPo.out];exact ⟨_,130,(0,0,s00),rfl,⟨none,0,none,0,rfl,.inl rfl,.inl rfl,Nat.le_refl _,by omega,fun _ => rfl⟩,below_setRow HB1.out (by omega),fun h => absurd h HNo.out,fun _ => ⟨rfl,rfl⟩⟩
end LW
end Go.Proofs.Ytfbnakmmmphedaa
