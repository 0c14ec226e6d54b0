/-
 The law on Before and Way of the program and of the document.
-/
import Derived.Test.YthcndgnpmefefaaWdo
import Derived.Test.YthcndgnpmefefaaWvAo
import Derived.Test.YthcndgnpmefefaaTvCo
import Derived.Test.YthcndgnpmefefaaBtAo
set_option linter.unusedVariables false
set_option linter.unusedSimpArgs false
namespace Go.Proofs.Ythcndgnpmefefaa
open List renaming setIfInBounds_toArray → lpA,set_cons_zero → lpZ,set_cons_succ → lpS,getElem_toArray → lgT,getElem_cons_zero → lgZ,getElem_cons_succ → lgS
open Go.RowKit
namespace LW
open Mc
set_option maxRecDepth 100000 in
set_option maxHeartbeats 4000000 in
theorem lalikes (a b : Option Addr) (ac bc : Nat) (xs : List Int) (w : World) (h1 : NR w a xs) (h2 : NR w b xs) (hn : xs.length ≤ 9223372036854775807) :
  Calls Try.prog 13 #[.slice a xs.length ac,.slice b xs.length bc] w fun e w' => e = .returned (.bool true) ∧ Below w.heap.size w w':=by
 have HX : Hid (∀ k W,k < xs.length → Below w.heap.size w W → ∃ b1 o1 b2 o2,a = some ⟨b1,o1,none⟩ ∧ b = some ⟨b2,o2,none⟩ ∧ W.cell? ⟨b1,o1 + k,none⟩ = some (.int .i64 (xs.getD k 0)) ∧ W.cell? ⟨b2,o2 + k,none⟩ = some (.int .i64 (xs.getD k 0))):=fun k W hk hW => by
  rcases h1 with h | ⟨b1,o1,rfl,hc1⟩
  ·rw [h] at hk;simp at hk
  rcases h2 with h | ⟨b2,o2,rfl,hc2⟩
  ·rw [h] at hk;simp at hk
  exact ⟨b1,o1,b2,o2,rfl,rfl,keepC hW (hc1 k hk),keepC hW (hc2 k hk)⟩
 clear h1 h2
 have kn : ((xs.length : Int) != (xs.length : Int)) = false:=by simp
 generalize xs.length = n at *
 go_enter Try.func13,Try.ntmps13
 go_wp2
 go_loopw [5] (fun i wr => ∃ k : Nat,k ≤ n ∧ i = .int .i64 (k : Int) ∧ Hid (Below w.heap.size w wr)) (fun i wr => n - (intOf i).toNat)
 case atStart => exact ⟨0,Nat.zero_le _,rfl,TW.hide (Below.refl _ _)⟩
 case round =>
  obtain ⟨k,hk,rfl,HB⟩:=hrel
  by_cases hlt : k < n
  ·obtain ⟨b1,o1,b2,o2,rfl,rfl,x1,x2⟩:=HX.out k wr hlt HB.out
   have hk1 : (k : Int) < (n : Int):=by omega
   have hk0 : (0 : Int) ≤ (k : Int):=by omega
   have kx : (xs.getD k 0 != xs.getD k 0) = false:=by simp
   generalize xs.getD k 0 = x at *
   go_wp2
   go_quiet (fail)
   go_wp2
   go_roundw
   case rel => exact ⟨k + 1,hlt,by go_num,TW.hide (below_drewN HB.out _)⟩
   case measure => simp [intOf];omega
  ·have hk1 : ¬ (k : Int) < (n : Int):=by omega
   go_wp2
   go_ret
   exact ⟨rfl,HB.out⟩
theorem wyF_len (s : Syst) (l : List Ev) (i j : Nat) : ∀ n m,(wyF s l i j n m).length ≤ n:=by
 intro n
 induction n with
 | zero => intro m;exact Nat.le_refl _
 | succ n ih =>
  intro m
  unfold wyF
  split
  ·exact Nat.zero_le _
  ·rw [List.length_cons]
   have:=ih (nxT s l i j m)
   omega
def wyO (s : Syst) (l : List Ev) (i j : Int) : List Int:=if beE s l i j = 0 ∧ beA s l i j = true then (wyD s l i.toNat j.toNat).map (fun (x : Nat) => (x : Int)) else []
theorem be_facts {s : Syst} {l : List Ev} {i j : Int} (h : beE s l i j = 0) : Ok s ∧ l.length ≤ 40000 ∧ Tr.Gd s l l.length ∧ i.toNat < l.length ∧ j.toNat < l.length ∧ (beA s l i j = true ↔ Tr.Bf s l i.toNat j.toNat):=by
 have hv : (Tr.vR s l).2.2 = 0:=by
  unfold beE at h
  by_cases h1 : (Tr.vR s l).2.2 = 0
  ·exact h1
  ·rw [if_neg h1] at h;exact absurd h h1
 obtain ⟨ho,hL,hg,_⟩:=Tr.vR_ok hv
 have hin : (0 ≤ i ∧ i < (l.length : Int)) ∧ (0 ≤ j ∧ j < (l.length : Int)):=by
  unfold beE at h
  rw [if_pos hv] at h
  by_cases h1 : (0 ≤ i ∧ i < (l.length : Int)) ∧ (0 ≤ j ∧ j < (l.length : Int))
  ·exact h1
  ·rw [if_neg h1] at h;exact absurd h (by decide)
 have hb : beA s l i j = bfB s l i.toNat j.toNat:=by unfold beA;rw [h];simp
 refine ⟨ho,hL,hg,by omega,by omega,?_⟩
 rw [hb]
 unfold bfB
 rw [decide_eq_true_iff,Tr.bf_iff s l _ _ (by omega) (by omega)]
theorem wyO_len (s : Syst) (l : List Ev) (i j : Int) : (wyO s l i j).length ≤ 40001:=by
 unfold wyO
 split
 ·rename_i h
  have h1:=be_facts h.1
  rw [List.length_map]
  unfold wyD
  rw [List.length_cons]
  have:=wyF_len s l i.toNat j.toNat (j.toNat + 1) i.toNat
  omega
 ·simp
theorem wyO_is {s : Syst} {l : List Ev} {i j : Int} {r : List Int} (h : beE s l i j = 0) (hr : WyR s l i.toNat j.toNat r) : r = wyO s l i j:=by
 obtain ⟨ho,hL,hg,hi,hj,hiff⟩:=be_facts h
 obtain ⟨h1,h2⟩:=wyr_doc hg ho hi hj hr
 unfold wyO
 by_cases hb : beA s l i j = true
 ·rw [if_pos ⟨h,hb⟩]
  exact h1 (hiff.1 hb)
 ·rw [if_neg (fun h3 => hb h3.2)]
  exact h2 (fun h3 => hb (hiff.2 h3))
set_option maxRecDepth 100000 in
set_option maxHeartbeats 40000000 in
theorem ordersW (s : Syst) (pa : Option Addr) (pc : Nat) (ra : Option Addr) (rc : Nat) (la : Option Addr) (lc : Nat) (l : List Ev) (ai aj ak : Int) (w : World) (hs : SyI w s pa ra) (hl : EvI w la lc l) (hz : l.length ≤ 3518437208780) (hi : i64 ai) (hj : i64 aj) (hk : i64 ak) :
  Calls Try.prog 5 #[.agg (syC s pa pc ra rc),.slice la l.length lc,.agg #[.int .i64 ai,.int .i64 aj,.int .i64 ak]] w fun e w' => e = .returned (.bool true) ∧ Below w.heap.size w w':=by
 unfold syC
 have HCo : Hid (∀ W,Below w.heap.size w W → Calls Try.prog 7 #[.slice la l.length lc] W fun e w' => ∃ a c,e = .returned (.slice a l.length c) ∧ EvI w' a c l ∧ Below W.heap.size W w'):=fun W hW => lcopied la lc l W (hl.below hW) hz
 have HB1 : Hid (∀ a c W,Below w.heap.size w W → EvI W a c l → Calls Try.prog 14 #[.agg #[.slice pa s.progs.length pc,.slice ra s.rooms.length rc,.int .i64 s.groups,.int .i64 s.locks,.int .i64 s.cells],.slice a l.length c,.int .i64 ai,.int .i64 aj] W fun e w' => e = .returned (.tuple #[.bool (beA s l ai aj),.int .i64 (beE s l ai aj)]) ∧ Below W.heap.size W w'):=fun a c W hW he => ptbefore s pa pc ra rc a c l ai aj W (hs.below hW) he
 have HB2 : Hid (∀ W,Below w.heap.size w W → Calls Try.prog 15 #[.agg #[.slice pa s.progs.length pc,.slice ra s.rooms.length rc,.int .i64 s.groups,.int .i64 s.locks,.int .i64 s.cells],.slice la l.length lc,.int .i64 ai,.int .i64 aj] W fun e w' => e = .returned (.tuple #[.bool (beA s l ai aj),.int .i64 (beE s l ai aj)]) ∧ Below W.heap.size W w'):=fun W hW => rtbefore s pa pc ra rc la lc l ai aj W (hs.below hW) (hl.below hW)
 have HW1 : Hid (∀ a c W,Below w.heap.size w W → EvI W a c l → Calls Try.prog 16 #[.agg #[.slice pa s.progs.length pc,.slice ra s.rooms.length rc,.int .i64 s.groups,.int .i64 s.locks,.int .i64 s.cells],.slice a l.length c,.int .i64 ai,.int .i64 aj] W fun e w' => ∃ ra rc,e = .returned (.tuple #[.slice ra (wyO s l ai aj).length rc,.int .i64 (beE s l ai aj)]) ∧ NR w' ra (wyO s l ai aj) ∧ Below W.heap.size W w'):=fun a c W hW he => (ptway s pa pc ra rc a c l ai aj W (hs.below hW) he).mono fun e w' h => by
  unfold WyU at h
  by_cases hc : beE s l ai aj = 0
  ·obtain ⟨v,r,e1,q1,q2,q3⟩:=h.2.1 hc
   rw [wyO_is hc q1] at q3
   obtain ⟨a9,c9,e9,h9⟩:=nr_own9 q3
   exact ⟨a9,c9,by rw [e1,e9,hc],h9,h.2.2⟩
  ·have e0 : wyO s l ai aj = []:=by unfold wyO;rw [if_neg (fun h => hc h.1)]
   rw [e0]
   exact ⟨none,0,h.1 hc,.inl rfl,h.2.2⟩
 have HW2 : Hid (∀ W,Below w.heap.size w W → Calls Try.prog 17 #[.agg #[.slice pa s.progs.length pc,.slice ra s.rooms.length rc,.int .i64 s.groups,.int .i64 s.locks,.int .i64 s.cells],.slice la l.length lc,.int .i64 ai,.int .i64 aj] W fun e w' => ∃ ra rc,e = .returned (.tuple #[.slice ra (wyO s l ai aj).length rc,.int .i64 (beE s l ai aj)]) ∧ NR w' ra (wyO s l ai aj) ∧ Below W.heap.size W w'):=fun W hW => (rtway s pa pc ra rc la lc l ai aj W (hs.below hW) (hl.below hW)).mono fun e w' h => by
  by_cases hc : beE s l ai aj = 0 ∧ beA s l ai aj = true
  ·obtain ⟨a9,c9,e9,h9⟩:=h.2.1 hc
   have e0 : wyO s l ai aj = (wyD s l ai.toNat aj.toNat).map (fun (x : Nat) => (x : Int)):=by unfold wyO;rw [if_pos hc]
   rw [e0]
   exact ⟨a9,c9,by rw [e9,List.length_map,hc.1],h9,h.2.2⟩
  ·have e0 : wyO s l ai aj = []:=by unfold wyO;rw [if_neg hc]
   rw [e0]
   exact ⟨none,0,h.1 hc,.inl rfl,h.2.2⟩
 have HA1 : Hid (∀ a b ac bc W,NR W a (wyO s l ai aj) → NR W b (wyO s l ai aj) → Calls Try.prog 13 #[.slice a (wyO s l ai aj).length ac,.slice b (wyO s l ai aj).length bc] W fun e w' => e = .returned (.bool true) ∧ Below W.heap.size W w'):=fun a b ac bc W h1 h2 => lalikes a b ac bc _ W h1 h2 (by have:=wyO_len s l ai aj;omega)
 generalize wyO s l ai aj = WL at *
 generalize beE s l ai aj = F1 at *
 generalize beA s l ai aj = A1 at *
 clear hs hl hz hi hj hk
 have NS0 : Hid (((w.alloc (.cells #[.slice pa s.progs.length pc,.slice ra s.rooms.length rc,.int .i64 s.groups,.int .i64 s.locks,.int .i64 s.cells] 25)).alloc (.cells #[.int .i64 ai,.int .i64 aj,.int .i64 ak] 45)).heap[w.heap.size]? = some (.cells #[.slice pa s.progs.length pc,.slice ra s.rooms.length rc,.int .i64 s.groups,.int .i64 s.locks,.int .i64 s.cells] 25 (0,0))):=blk_alloc (heap_alloc_new w _)
 have NA0 : Hid (((w.alloc (.cells #[.slice pa s.progs.length pc,.slice ra s.rooms.length rc,.int .i64 s.groups,.int .i64 s.locks,.int .i64 s.cells] 25)).alloc (.cells #[.int .i64 ai,.int .i64 aj,.int .i64 ak] 45)).heap[w.heap.size + 1]? = some (.cells #[.int .i64 ai,.int .i64 aj,.int .i64 ak] 45 (0,0))):=by
  have h1:=heap_alloc_new (w.alloc (.cells #[.slice pa s.progs.length pc,.slice ra s.rooms.length rc,.int .i64 s.groups,.int .i64 s.locks,.int .i64 s.cells] 25)) (.cells #[.int .i64 ai,.int .i64 aj,.int .i64 ak] 45)
  have h2 : (w.alloc (.cells #[.slice pa s.progs.length pc,.slice ra s.rooms.length rc,.int .i64 s.groups,.int .i64 s.locks,.int .i64 s.cells] 25)).heap.size = w.heap.size + 1:=by simp
  rw [h2] at h1
  exact h1
 have NB0 : Hid (Below w.heap.size w ((w.alloc (.cells #[.slice pa s.progs.length pc,.slice ra s.rooms.length rc,.int .i64 s.groups,.int .i64 s.locks,.int .i64 s.cells] 25)).alloc (.cells #[.int .i64 ai,.int .i64 aj,.int .i64 ak] 45))):=((Below.refl _ _).alloc (Nat.le_refl _) _).alloc (by simp) _
 have kx : (F1 != F1) = false:=by simp
 have ky : (F1 == F1) = true:=by simp
 have kz : (A1 != A1) = false:=by simp
 go_enter Try.func5,Try.ntmps5
 refine wp_seq_k fun K hK => ?_
 have HK:=TW.hide hK
 clear hK
 go_wp2
 refine HK.out _ _ ?_
 clear HK K
 generalize World.alloc _ _ = X at *
 generalize w.heap.size + 1 = ga at *
 have z0 : X.cell? ⟨ga,0,none⟩ = some (.int .i64 ai):=blk_cell NA0.out rfl
 have z1 : X.cell? ⟨ga,1,none⟩ = some (.int .i64 aj):=blk_cell NA0.out rfl
 refine wp_seq_k fun K hK => ?_
 have HK:=TW.hide hK
 clear hK
 go_wp2
 go_quiet (fail)
 go_wp2
 refine HK.out _ _ ?_
 clear HK K
 have hq : Below X.heap.size X (X.drewN nq):=below_drewN (Below.refl _ _) _
 have NS:=TW.hide (blk_keep NS0.out hq)
 have NBx : Hid (Below w.heap.size w (X.drewN nq)):=NB0.out.trans (hq.mono NB0.out.size)
 clear hq z0 z1 NS0 NA0 NB0
 generalize X.drewN nq = X1 at *
 have HX : Hid (Below X1.heap.size X1 X1):=Below.refl _ _
 refine wp_seq_k fun K hK => ?_
 have HK:=TW.hide hK
 clear hK
 refine wp_region_noPanic ?_
 refine RG.wp_region_L (fun Z => True) (fun Z => Below X1.heap.size X1 Z) [] (by kernel_rfl) ?_
 refine RG.wpL_any fun Ya hY => ?_
 have HTa : Hid (Below X1.heap.size X1 Ya):=by rw [hY];exact below_drewN HX.out 1
 clear hY
 refine RG.wpL_take (fuel:=7) (a':=?Aa) [0,1,3,4] (by kernel_rfl) (by kernel_rfl) (fun _ _ _ _ _ h => h) HTa.out (fun _ => trivial) ?ra ?_
 case ra =>
  refine RG.RunsIf.weak (v:=.agg #[.slice pa s.progs.length pc,.slice ra s.rooms.length rc,.int .i64 s.groups,.int .i64 s.locks,.int .i64 s.cells]) (by rfl) (by rfl) (fun Z hT => ?_) ?_
  ·obtain ⟨y0,y1,y2,y3,y4⟩:=cellsY5 (blk_keep NS.out hT)
   go_simp
  simp only [Act.put,lpA,lpZ,lpS,lgT,lgZ,lgS]
  iterate 3
   refine RG.RunsIf.weak (v:=?_) (by rfl) (by rfl) (fun Z hT => ?_) ?_
   rotate_left
   ·go_simp
    rfl
   simp only [Act.put,lpA,lpZ,lpS,lgT,lgZ,lgS]
  exact RG.RunsIf.nil
 refine RG.wpL_step (i:=2) (by kernel_rfl) (by rfl) (by rfl) (fun KX hK => ?_)
 have HK:=TW.hide hK
 clear hK
 go_simp
 refine (HCo.out Ya (NBx.out.trans (HTa.out.mono NBx.out.size))).mono ?_
 rintro e_Wc Wc ⟨ca,cc,rfl,hce,hb⟩
 have HTc : Hid (Below X1.heap.size X1 Wc):=HTa.out.trans (hb.mono HTa.out.size)
 refine HK.out _ _ HTc.out (fun _ => trivial) ?_
 clear HK KX hb
 try simp only [Act.put,lpA,lpZ,lpS,lgT,lgZ,lgS]
 refine RG.wpL_step (i:=5) (by kernel_rfl) (by rfl) (by rfl) (fun KX hK => ?_)
 have HK:=TW.hide hK
 clear hK
 go_simp
 refine (HB1.out ca cc Wc (NBx.out.trans (HTc.out.mono NBx.out.size)) hce).mono ?_
 rintro e_Wd Wd ⟨rfl,hb⟩
 have HTd : Hid (Below X1.heap.size X1 Wd):=HTc.out.trans (hb.mono HTc.out.size)
 refine HK.out _ _ HTd.out (fun _ => trivial) ?_
 clear HK KX hb
 try simp only [Act.put,lpA,lpZ,lpS,lgT,lgZ,lgS]
 refine RG.wpL_take (fuel:=0) (a':=?Aax) [6,7,8,9,10] (by kernel_rfl) (by kernel_rfl) (fun _ _ _ _ _ h => h) HTd.out (fun _ => trivial) ?rax ?_
 case rax =>
  iterate 5
   refine RG.RunsIf.weak (v:=?_) (by rfl) (by rfl) (fun Z hT => ?_) ?_
   rotate_left
   ·go_simp
    rfl
   simp only [Act.put,lpA,lpZ,lpS,lgT,lgZ,lgS]
  exact RG.RunsIf.nil
 refine RG.wpL_done (by kernel_rfl) ?_ _
 refine NoPanic.normal ?_
 refine HK.out _ _ ?_
 clear HK K
 have NB1 : Hid (Below w.heap.size w Wd):=NBx.out.trans (HTd.out.mono NBx.out.size)
 have NS1:=TW.hide (blk_keep NS.out HTd.out)
 clear HTa HTc HTd HX NS NBx hce
 obtain ⟨y0,y1,y2,y3,y4⟩:=cellsY5 NS1.out
 refine wp_seq_k fun K hK => ?_
 have HK:=TW.hide hK
 clear hK
 go_wp2_with fail
 refine (HB2.out Wd NB1.out).mono ?_
 rintro e3 W3 ⟨rfl,hb⟩
 have NBx : Hid (Below w.heap.size w W3):=NB1.out.trans (hb.mono NB1.out.size)
 have NS:=TW.hide (blk_keep NS1.out hb)
 clear hb NB1 NS1 y0 y1 y2 y3 y4
 go_wp2
 refine HK.out _ _ ?_
 clear HK
 refine wp_seq_k fun K hK => ?_
 have HK:=TW.hide hK
 clear hK
 go_wp2
 refine HK.out _ _ ?_
 clear HK
 have HX : Hid (Below W3.heap.size W3 W3):=Below.refl _ _
 refine wp_seq_k fun K hK => ?_
 have HK:=TW.hide hK
 clear hK
 refine wp_region_noPanic ?_
 refine RG.wp_region_L (fun Z => True) (fun Z => Below W3.heap.size W3 Z) [] (by kernel_rfl) ?_
 refine RG.wpL_any fun Yb hY => ?_
 have HTb : Hid (Below W3.heap.size W3 Yb):=by rw [hY];exact below_drewN HX.out 1
 clear hY
 refine RG.wpL_take (fuel:=7) (a':=?Ab) [0,1,3,4] (by kernel_rfl) (by kernel_rfl) (fun _ _ _ _ _ h => h) HTb.out (fun _ => trivial) ?rb ?_
 case rb =>
  refine RG.RunsIf.weak (v:=.agg #[.slice pa s.progs.length pc,.slice ra s.rooms.length rc,.int .i64 s.groups,.int .i64 s.locks,.int .i64 s.cells]) (by rfl) (by rfl) (fun Z hT => ?_) ?_
  ·obtain ⟨y0,y1,y2,y3,y4⟩:=cellsY5 (blk_keep NS.out hT)
   go_simp
  simp only [Act.put,lpA,lpZ,lpS,lgT,lgZ,lgS]
  iterate 3
   refine RG.RunsIf.weak (v:=?_) (by rfl) (by rfl) (fun Z hT => ?_) ?_
   rotate_left
   ·go_simp
    rfl
   simp only [Act.put,lpA,lpZ,lpS,lgT,lgZ,lgS]
  exact RG.RunsIf.nil
 refine RG.wpL_step (i:=2) (by kernel_rfl) (by rfl) (by rfl) (fun KX hK => ?_)
 have HK:=TW.hide hK
 clear hK
 go_simp
 refine (HCo.out Yb (NBx.out.trans (HTb.out.mono NBx.out.size))).mono ?_
 rintro e_Wc Wc ⟨ca,cc,rfl,hce,hb⟩
 have HTc : Hid (Below W3.heap.size W3 Wc):=HTb.out.trans (hb.mono HTb.out.size)
 refine HK.out _ _ HTc.out (fun _ => trivial) ?_
 clear HK KX hb
 try simp only [Act.put,lpA,lpZ,lpS,lgT,lgZ,lgS]
 refine RG.wpL_step (i:=5) (by kernel_rfl) (by rfl) (by rfl) (fun KX hK => ?_)
 have HK:=TW.hide hK
 clear hK
 go_simp
 refine (HW1.out ca cc Wc (NBx.out.trans (HTc.out.mono NBx.out.size)) hce).mono ?_
 rintro e_Wd Wd ⟨p1,p2,rfl,hn1,hb⟩
 have HTd : Hid (Below W3.heap.size W3 Wd):=HTc.out.trans (hb.mono HTc.out.size)
 refine HK.out _ _ HTd.out (fun _ => trivial) ?_
 clear HK KX hb
 try simp only [Act.put,lpA,lpZ,lpS,lgT,lgZ,lgS]
 refine RG.wpL_take (fuel:=0) (a':=?Abx) [6,7,8,9,10] (by kernel_rfl) (by kernel_rfl) (fun _ _ _ _ _ h => h) HTd.out (fun _ => trivial) ?rbx ?_
 case rbx =>
  iterate 5
   refine RG.RunsIf.weak (v:=?_) (by rfl) (by rfl) (fun Z hT => ?_) ?_
   rotate_left
   ·go_simp
    rfl
   simp only [Act.put,lpA,lpZ,lpS,lgT,lgZ,lgS]
  exact RG.RunsIf.nil
 refine RG.wpL_done (by kernel_rfl) ?_ _
 refine NoPanic.normal ?_
 refine HK.out _ _ ?_
 clear HK K
 have NB1 : Hid (Below w.heap.size w Wd):=NBx.out.trans (HTd.out.mono NBx.out.size)
 have NS1:=TW.hide (blk_keep NS.out HTd.out)
 have HN1:=TW.hide hn1
 clear HTb HTc HTd HX NS NBx hce hn1
 obtain ⟨y0,y1,y2,y3,y4⟩:=cellsY5 NS1.out
 refine wp_seq_k fun K hK => ?_
 have HK:=TW.hide hK
 clear hK
 go_wp2_with fail
 refine (HW2.out Wd NB1.out).mono ?_
 rintro e5 W5 ⟨p3,p4,rfl,hn2,hb⟩
 have NB5 : Hid (Below w.heap.size w W5):=NB1.out.trans (hb.mono NB1.out.size)
 have HN15:=TW.hide (HN1.out.below hb)
 have HN2:=TW.hide hn2
 clear hb NB1 NS1 HN1 hn2 y0 y1 y2 y3 y4
 go_wp2
 refine HK.out _ _ ?_
 clear HK
 go_wp2_with fail
 refine (HA1.out p1 p3 p2 p4 W5 HN15.out HN2.out).mono ?_
 rintro e6 W6 ⟨rfl,hb⟩
 have NB6 : Hid (Below w.heap.size w W6):=NB5.out.trans (hb.mono NB5.out.size)
 clear hb NB5
 go_wp2
 go_ret
 exact ⟨rfl,NB6.out⟩
end LW
end Go.Proofs.Ythcndgnpmefefaa
