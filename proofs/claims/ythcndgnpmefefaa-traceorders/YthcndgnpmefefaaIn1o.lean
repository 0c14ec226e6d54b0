/-
 From where edges lead to an event, as the document looks for them: the first loop.
-/
import Derived.Test.YthcndgnpmefefaaDnAo
import Derived.Test.YthcndgnpmefefaaLkAo
set_option linter.unusedVariables false
set_option linter.unusedSimpArgs false
namespace Go.Proofs.Ythcndgnpmefefaa
open List renaming setIfInBounds_toArray → lpA,set_cons_zero → lpZ,set_cons_succ → lpS,getElem_toArray → lgT,getElem_cons_zero → lgZ,getElem_cons_succ → lgS
open Go.RowKit
namespace LW
open Mc
theorem wp_act9 {P : Program} {c : Code} {Q : Exit → Act → World → Prop} {a : Act} {w : World} (h : ∀ b : Act,b = a → Code.wp P c Q b w) : Code.wp P c Q a w:=h a rfl
theorem own_low9 {W : World} {b b' n : Nat} {v : Value} {xs : List Value} (h : W.ownsRow b 3 1 v n xs) (hb : b' ≤ b) : W.ownsRow b' 3 1 v n xs:=⟨h.1,h.2.imp id (fun ⟨g,cap,cur,a,b,c⟩ => ⟨g,cap,cur,a,Nat.le_trans hb b,c⟩)⟩
set_option maxRecDepth 100000 in
set_option maxHeartbeats 40000000 in
theorem rinto (s : Syst) (pa : Option Addr) (pc : Nat) (ra : Option Addr) (rc : Nat) (la : Option Addr) (lc : Nat) (l : List Ev) (j : Nat) (w : World) (hs : SyI w s pa ra) (hl : EvI w la lc l) (ho : Ok s) (hg : Tr.Gd s l l.length) (hL : l.length ≤ 40000) (hj : j < l.length) :
  Calls Try.prog 22 #[.agg #[.slice pa s.progs.length pc,.slice ra s.rooms.length rc,.int .i64 s.groups,.int .i64 s.locks,.int .i64 s.cells],.slice la l.length lc,.int .i64 (j : Int)] w (fun e w' => (∃ (v : Value) (out : List Int),e = .returned v ∧ w'.ownsRow w.heap.size 3 1 v out.length (out.map (Value.int .i64)) ∧ out.Pairwise (· < ·) ∧ (∀ x,x ∈ out ↔ ∃ i : Nat,x = (i : Int) ∧ Tr.Eg s l i j) ∧ out.length ≤ 40001) ∧ Below w.heap.size w w'):=by
 obtain ⟨POST,hP⟩ : ∃ Q : Ending → World → Prop,Q = fun e w' => (∃ (v : Value) (out : List Int),e = .returned v ∧ w'.ownsRow w.heap.size 3 1 v out.length (out.map (Value.int .i64)) ∧ out.Pairwise (· < ·) ∧ (∀ x,x ∈ out ↔ ∃ i : Nat,x = (i : Int) ∧ Tr.Eg s l i j) ∧ out.length ≤ 40001) ∧ Below w.heap.size w w':=⟨_,rfl⟩
 have HPo : Hid (∀ (W : World) (v : Value) (out : List Int),W.ownsRow w.heap.size 3 1 v out.length (out.map (Value.int .i64)) → out.Pairwise (· < ·) → (∀ x,x ∈ out ↔ ∃ i : Nat,x = (i : Int) ∧ Tr.Eg s l i j) → out.length ≤ 40001 → Below w.heap.size w W → POST (.returned v) W):=fun W v out h1 h2 h3 h4 hW => by rw [hP];exact ⟨⟨v,out,rfl,h1,h2,h3,h4⟩,hW⟩
 rw [← hP]
 clear hP
 obtain ⟨b,off,whoj,oj,aj,vj,sj,hla,hevj,_,_,_,_,x0,x1,x2,x3,x4⟩:=hl.get j hj
 have hfw : 0 ≤ whoj:=by
  have:=(hg j hj).w0
  have e : l.getD j Tr.e0 = ⟨whoj,oj,aj,vj,sj⟩:=hevj
  rw [e] at this
  exact this
 obtain ⟨wj,rfl⟩ : ∃ wj : Nat,whoj = (wj : Int):=⟨whoj.toNat,by omega⟩
 have HEVj:=TW.hide hevj
 have HEw:=TW.hide hl
 have HSw:=TW.hide hs
 have HOk:=TW.hide ho
 have HGd:=TW.hide hg
 have HLn:=TW.hide hL
 have HJl:=TW.hide hj
 have hj4 : j ≤ 40000:=by omega
 have hb_ : Below w.heap.size w (w.alloc (.cells #[.slice pa s.progs.length pc,.slice ra s.rooms.length rc,.int .i64 s.groups,.int .i64 s.locks,.int .i64 s.cells] 25)):=(Below.refl _ _).alloc (Nat.le_refl _) _
 replace x0:=keepC hb_ x0
 replace x1:=keepC hb_ x1
 replace x2:=keepC hb_ x2
 replace x3:=keepC hb_ x3
 replace x4:=keepC hb_ x4
 have qj0 : (0 : Int) ≤ (j : Int):=by omega
 have qj1 : (j : Int) < (l.length : Int):=by omega
 subst hla
 obtain ⟨i3,hi3,hz30,hz31,hz32⟩:=info_parts' intinfo
 clear hs hl ho hg hL hj hevj hfw hb_
 have hA : Below w.heap.size w (w.alloc (.cells #[.slice pa s.progs.length pc,.slice ra s.rooms.length rc,.int .i64 s.groups,.int .i64 s.locks,.int .i64 s.cells] 25)):=(Below.refl _ _).alloc (Nat.le_refl _) _
 have N1 : Hid ((w.alloc (.cells #[.slice pa s.progs.length pc,.slice ra s.rooms.length rc,.int .i64 s.groups,.int .i64 s.locks,.int .i64 s.cells] 25)).heap[w.heap.size]? = some (.cells #[.slice pa s.progs.length pc,.slice ra s.rooms.length rc,.int .i64 s.groups,.int .i64 s.locks,.int .i64 s.cells] 25 (0,0))):=heap_alloc_new w _
 have NB:=TW.hide hA
 clear hA
 go_enter Try.func22,Try.ntmps22
 refine wp_seq_k fun K hK => ?_
 have HK:=TW.hide hK
 clear hK
 go_wp2
 refine HK.out _ _ ?_
 clear HK K
 generalize w.alloc _ = X at *
 have hAl : Below X.heap.size X ((X.alloc (.cells #[.int .i64 0,.int .i64 0,.int .i64 0,.int .i64 0,.bool false] 65)).setRow X.heap.size #[.int .i64 (wj : Int),.int .i64 oj,.int .i64 aj,.int .i64 vj,.bool sj]):=below_setRow ((Below.refl _ _).alloc (Nat.le_refl _) _) (Nat.le_refl _)
 have NE4 : Hid (((X.alloc (.cells #[.int .i64 0,.int .i64 0,.int .i64 0,.int .i64 0,.bool false] 65)).setRow X.heap.size #[.int .i64 (wj : Int),.int .i64 oj,.int .i64 aj,.int .i64 vj,.bool sj]).heap[X.heap.size]? = some (.cells #[.int .i64 (wj : Int),.int .i64 oj,.int .i64 aj,.int .i64 vj,.bool sj] 65 (0,0))):=setRow_heap _ _ _ _ _ _ (heap_alloc_new X _)
 have NS4:=TW.hide (blk_keep N1.out hAl)
 have NB4 : Hid (Below w.heap.size w ((X.alloc (.cells #[.int .i64 0,.int .i64 0,.int .i64 0,.int .i64 0,.bool false] 65)).setRow X.heap.size #[.int .i64 (wj : Int),.int .i64 oj,.int .i64 aj,.int .i64 vj,.bool sj])):=NB.out.trans (hAl.mono NB.out.size)
 clear hAl N1 NB
 refine wp_seq_k fun K hK => ?_
 have HK:=TW.hide hK
 clear hK
 go_wp2_with (first | (refine wpList_store_row (by rfl) 65 _ _ (by rfl) X.heap.size #[.int .i64 (wj : Int),.int .i64 oj,.int .i64 aj,.int .i64 vj,.bool sj] (by rfl) (by rfl) 65 _ (heap_alloc_new X _) (by kernel_rfl) (by rfl) (by simp [Value.oneCell']) ?_;generalize World.setRow _ _ _ = X4 at *;generalize X.heap.size = ge at *) | fail)
 refine HK.out _ _ ?_
 clear HK x0 x1 x2 x3 x4
 refine wp_seq_k fun K hK => ?_
 have HK:=TW.hide hK
 clear hK
 go_wp2
 refine HK.out _ _ ?_
 clear HK
 refine wp_seq_k fun K hK => ?_
 have HK:=TW.hide hK
 clear hK
 go_wp2
 refine HK.out _ _ ?_
 clear HK
 refine wp_seq_k fun K hK => ?_
 have HK:=TW.hide hK
 clear hK
 go_wp2
 refine HK.out _ _ ?_
 clear HK
 refine wp_seq_k fun K hK => ?_
 have HK:=TW.hide hK
 clear hK
 go_wp2
 refine HK.out _ _ ?_
 clear HK
 refine wp_seq_k fun K hK => ?_
 have HK:=TW.hide hK
 clear hK
 go_wp2
 go_loopw [9,10,11,12] (fun lav bov nuv iv wr => ∃ (i : Nat) (la bo : Int),i ≤ j ∧ iv = .int .i64 (i : Int) ∧ lav = .int .i64 la ∧ bov = .int .i64 bo ∧ nuv = .int .i64 (Tr.nuC l j i : Int) ∧ Hid (Tr.LaB l j i la bo) ∧ Hid (wr.heap[ge]? = some (.cells #[.int .i64 (wj : Int),.int .i64 oj,.int .i64 aj,.int .i64 vj,.bool sj] 65 (0,0))) ∧ Hid (wr.heap[w.heap.size]? = some (.cells #[.slice pa s.progs.length pc,.slice ra s.rooms.length rc,.int .i64 s.groups,.int .i64 s.locks,.int .i64 s.cells] 25 (0,0))) ∧ Hid (Below w.heap.size w wr)) (fun lav bov nuv iv wr => j - (intOf iv).toNat)
 case atStart => exact ⟨0,-1,-1,Nat.zero_le _,rfl,rfl,rfl,by have:=Tr.nuC_le l j 0 (Nat.zero_le _);rw [show Tr.nuC l j 0 = 0 by omega];rfl,TW.hide (Tr.LaB.zero l j),NE4,NS4,NB4⟩
 case round =>
  obtain ⟨i,la,bo,hi,rfl,rfl,rfl,rfl,HLa,NE,NS,HBW⟩:=hrel
  by_cases hlt : i < j
  ·obtain ⟨b',off',who,op,a,va,sh,hla2,hevi,_,_,_,_,x0,x1,x2,x3,x4⟩:=(HEw.out.below HBW.out).get i (by have:=HJl.out;omega)
   injection hla2 with hla2
   injection hla2 with hla3 hla4
   subst hla3 hla4
   have HEVi:=TW.hide hevi
   have hk1 : (i : Int) < (j : Int):=by omega
   have hk2 : (i : Int) < (l.length : Int):=by omega
   have hk0 : (0 : Int) ≤ (i : Int):=by omega
   have hk4 : i + 1 ≤ 40000:=by omega
   have HLT:=TW.hide hlt
   have HXr : Hid (Below wr.heap.size wr wr):=Below.refl _ _
   clear hevi hlt HPo
   refine wp_seq_k fun K hK => ?_
   have HK:=TW.hide hK
   clear hK
   go_wp2
   refine HK.out _ _ ?_
   clear HK
   refine wp_seq_k fun Kb hK => ?_
   have HKb:=TW.hide hK
   clear hK
   refine wp_block ?_
   refine wp_seq_k fun K hK => ?_
   have HK:=TW.hide hK
   clear hK
   refine wp_act9 fun a0 ha0 => ?_
   have hR : ∀ (W : World) (u27 u28 u29 u30 u31 u32 u33 u34 u35 : Value) (la1 : Int),Below wr.heap.size wr W → la1 = (if who = (wj : Int) then (i : Int) else la) → K ((((((((((a0.put (some 27) u27).put (some 28) u28).put (some 29) u29).put (some 30) u30).put (some 31) u31).put (some 32) u32).put (some 33) u33).put (some 34) u34).put (some 35) u35).put (some 9) (.int .i64 la1)) W:=by
    intro W u27 u28 u29 u30 u31 u32 u33 u34 u35 la1 hW hla
    rw [ha0]
    clear ha0
    simp only [Act.put,lpA,lpZ,lpS]
    refine HK.out _ _ ?_
    clear HK
    have HBWn : Hid (Below w.heap.size w W):=HBW.out.trans (hW.mono HBW.out.size)
    have NEn:=TW.hide (blk_keep NE.out hW)
    have NSn:=TW.hide (blk_keep NS.out hW)
    replace x0:=keepC hW x0
    replace x1:=keepC hW x1
    replace x2:=keepC hW x2
    replace x3:=keepC hW x3
    replace x4:=keepC hW x4
    clear HBW NE NS HXr hW
    have HBW:=HBWn
    have NE:=NEn
    have NS:=NSn
    clear HBWn NEn NSn
    have HXr : Hid (Below W.heap.size W W):=Below.refl _ _
    refine wp_seq_k fun K hK => ?_
    have HK:=TW.hide hK
    clear hK
    refine wp_act9 fun a0 ha0 => ?_
    have hR : ∀ (W2 : World) (u36 u37 u38 u39 u40 u41 u42 u43 u44 u45 u46 u47 u48 u49 u50 u51 u52 u53 u54 u55 u56 u57 : Value) (bo1 : Int),Below W.heap.size W W2 → bo1 = (if op = 14 ∧ va = (wj : Int) ∧ 0 < (wj : Int) then (i : Int) else bo) → K (((((((((((((((((((((((a0.put (some 36) u36).put (some 37) u37).put (some 38) u38).put (some 39) u39).put (some 40) u40).put (some 41) u41).put (some 42) u42).put (some 43) u43).put (some 44) u44).put (some 45) u45).put (some 46) u46).put (some 47) u47).put (some 48) u48).put (some 49) u49).put (some 50) u50).put (some 51) u51).put (some 52) u52).put (some 53) u53).put (some 54) u54).put (some 55) u55).put (some 56) u56).put (some 57) u57).put (some 10) (.int .i64 bo1)) W2:=by
     intro W2 u36 u37 u38 u39 u40 u41 u42 u43 u44 u45 u46 u47 u48 u49 u50 u51 u52 u53 u54 u55 u56 u57 bo1 hW hbo
     rw [ha0]
     clear ha0
     simp only [Act.put,lpA,lpZ,lpS]
     refine HK.out _ _ ?_
     clear HK
     have HLb : Hid (Tr.LaB l j (i + 1) la1 bo1):=by
      have h9:=HLa.out.next
      rw [HEVi.out,HEVj.out] at h9
      rw [hla,hbo]
      exact h9
     clear hla hbo HLa
     have HBWn : Hid (Below w.heap.size w W2):=HBW.out.trans (hW.mono HBW.out.size)
     have NEn:=TW.hide (blk_keep NE.out hW)
     have NSn:=TW.hide (blk_keep NS.out hW)
     replace x0:=keepC hW x0
     replace x1:=keepC hW x1
     replace x2:=keepC hW x2
     replace x3:=keepC hW x3
     replace x4:=keepC hW x4
     clear HBW NE NS HXr hW
     have HBW:=HBWn
     have NE:=NEn
     have NS:=NSn
     clear HBWn NEn NSn
     have HXr : Hid (Below W2.heap.size W2 W2):=Below.refl _ _
     by_cases h5 : oj = 5
     ·have k5 : (oj == 5) = true:=by simp [h5]
      have k6 : (oj == 6) = false:=by simp;omega
      by_cases hi5 : op = 5
      ·have ki5 : (op == 5) = true:=by simp [hi5]
       by_cases ha : a = aj
       ·have ka : (a == aj) = true:=by simp [ha]
        refine wp_seq_k fun K8 hK8 => ?_
        have HK8:=TW.hide hK8
        clear hK8
        refine wp_region_noPanic ?_
        refine RG.wp_region_L (fun Z => True) (fun Z => Below W2.heap.size W2 Z) [] (by kernel_rfl) ?_
        refine RG.wpL_any fun Yz31 hY => ?_
        have HTz31 : Hid (Below W2.heap.size W2 Yz31):=by rw [hY];exact below_drewN HXr.out 1
        clear hY
        refine RG.wpL_take (fuel:=0) (a':=?Az31) [0,1,2,3,4,5,6,7,8,9,10,11,12,13,14,15,16,17,18,19,20,21,22,23,24,25,26,27,28,29,30,31,32,33,34,35,36,37,38,39,40,41,42,43,44,45,46] (by kernel_rfl) (by kernel_rfl) (fun _ _ _ _ _ h => h) HTz31.out (fun _ => trivial) ?rz31 ?_
        case rz31 =>
         refine RG.RunsIf.weak (v:=?_) (by rfl) (by rfl) (fun Z hT => ?_) ?_
         rotate_left
         ·go_simp
          rfl
         simp only [Act.put,lpA,lpZ,lpS,lgT,lgZ,lgS]
         refine RG.RunsIf.weak (v:=.int .i64 oj) (by rfl) (by rfl) (fun Z hT => ?_) ?_
         ·have x1:=keepC hT x1;have x2:=keepC hT x2;have x4:=keepC hT x4;obtain ⟨z0,z1,z2,z3,z4⟩:=cellsY5 (blk_keep NE.out hT)
          go_simp
         simp only [Act.put,lpA,lpZ,lpS,lgT,lgZ,lgS]
         iterate 2
          refine RG.RunsIf.weak (v:=.bool true) (by rfl) (by rfl) (fun Z hT => ?_) ?_
          ·go_simp
          simp only [Act.put,lpA,lpZ,lpS,lgT,lgZ,lgS]
         iterate 4
          refine RG.RunsIf.weak (v:=?_) (by rfl) (by rfl) (fun Z hT => ?_) ?_
          rotate_left
          ·go_simp
           rfl
          simp only [Act.put,lpA,lpZ,lpS,lgT,lgZ,lgS]
         refine RG.RunsIf.weak (v:=.int .i64 op) (by rfl) (by rfl) (fun Z hT => ?_) ?_
         ·have x1:=keepC hT x1;have x2:=keepC hT x2;have x4:=keepC hT x4;obtain ⟨z0,z1,z2,z3,z4⟩:=cellsY5 (blk_keep NE.out hT)
          go_simp
         simp only [Act.put,lpA,lpZ,lpS,lgT,lgZ,lgS]
         refine RG.RunsIf.weak (v:=.bool true) (by rfl) (by rfl) (fun Z hT => ?_) ?_
         ·go_simp
         simp only [Act.put,lpA,lpZ,lpS,lgT,lgZ,lgS]
         refine RG.RunsIf.weak (v:=.bool true) (by rfl) (by rfl) (fun Z hT => ?_) ?_
         ·(go_simp) <;> rfl
         simp only [Act.put,lpA,lpZ,lpS,lgT,lgZ,lgS]
         refine RG.RunsIf.weak (v:=.bool true) (by rfl) (by rfl) (fun Z hT => ?_) ?_
         ·go_simp
         simp only [Act.put,lpA,lpZ,lpS,lgT,lgZ,lgS]
         iterate 24
          refine RG.RunsIf.skip (by rfl) (by rfl) ?_
          simp only [Act.put,lpA,lpZ,lpS,lgT,lgZ,lgS]
         refine RG.RunsIf.weak (v:=.bool true) (by rfl) (by rfl) (fun Z hT => ?_) ?_
         ·(go_simp) <;> rfl
         simp only [Act.put,lpA,lpZ,lpS,lgT,lgZ,lgS]
         refine RG.RunsIf.weak (v:=.bool true) (by rfl) (by rfl) (fun Z hT => ?_) ?_
         ·go_simp
         simp only [Act.put,lpA,lpZ,lpS,lgT,lgZ,lgS]
         iterate 4
          refine RG.RunsIf.weak (v:=?_) (by rfl) (by rfl) (fun Z hT => ?_) ?_
          rotate_left
          ·go_simp
           rfl
          simp only [Act.put,lpA,lpZ,lpS,lgT,lgZ,lgS]
         refine RG.RunsIf.weak (v:=.int .i64 a) (by rfl) (by rfl) (fun Z hT => ?_) ?_
         ·have x1:=keepC hT x1;have x2:=keepC hT x2;have x4:=keepC hT x4;obtain ⟨z0,z1,z2,z3,z4⟩:=cellsY5 (blk_keep NE.out hT)
          go_simp
         simp only [Act.put,lpA,lpZ,lpS,lgT,lgZ,lgS]
         refine RG.RunsIf.weak (v:=?_) (by rfl) (by rfl) (fun Z hT => ?_) ?_
         rotate_left
         ·go_simp
          rfl
         simp only [Act.put,lpA,lpZ,lpS,lgT,lgZ,lgS]
         refine RG.RunsIf.weak (v:=.int .i64 aj) (by rfl) (by rfl) (fun Z hT => ?_) ?_
         ·have x1:=keepC hT x1;have x2:=keepC hT x2;have x4:=keepC hT x4;obtain ⟨z0,z1,z2,z3,z4⟩:=cellsY5 (blk_keep NE.out hT)
          go_simp
         simp only [Act.put,lpA,lpZ,lpS,lgT,lgZ,lgS]
         refine RG.RunsIf.weak (v:=.bool true) (by rfl) (by rfl) (fun Z hT => ?_) ?_
         ·go_simp
         simp only [Act.put,lpA,lpZ,lpS,lgT,lgZ,lgS]
         refine RG.RunsIf.weak (v:=.bool true) (by rfl) (by rfl) (fun Z hT => ?_) ?_
         ·(go_simp) <;> rfl
         simp only [Act.put,lpA,lpZ,lpS,lgT,lgZ,lgS]
         exact RG.RunsIf.nil
        refine RG.wpL_done (by kernel_rfl) ?_ _
        refine NoPanic.normal ?_
        refine HK8.out _ _ ?_
        clear HK8
        have HBn : Hid (Below w.heap.size w Yz31):=HBW.out.trans (HTz31.out.mono HBW.out.size)
        have NEn:=TW.hide (blk_keep NE.out HTz31.out)
        have NSn:=TW.hide (blk_keep NS.out HTz31.out)
        have HNu : Hid (Tr.nuC l j (i + 1) = Tr.nuC l j i + 1):=by
         show _ = _
         rw [Tr.nuC_next l j i (by have:=HJl.out;omega),if_pos (by rw [HEVi.out,HEVj.out];exact ⟨.inl ⟨h5,hi5⟩,ha⟩)]
        have hnl:=Tr.nuC_le l j (i + 1) (by have:=HJl.out;omega)
        rw [HNu.out] at hnl
        generalize Tr.nuC l j i = nu at *
        go_wp2
        refine HKb.out _ _ ?_
        go_wp2
        go_roundw
        case rel => exact ⟨i + 1,_,_,HLT.out,by go_num,rfl,rfl,by rw [HNu.out];go_num,HLb.out,NEn,NSn,HBn⟩
        case measure => simp [intOf];have:=HLT.out;omega
       ·have ka : (a == aj) = false:=by simp [ha]
        refine wp_seq_k fun K8 hK8 => ?_
        have HK8:=TW.hide hK8
        clear hK8
        refine wp_region_noPanic ?_
        refine RG.wp_region_L (fun Z => True) (fun Z => Below W2.heap.size W2 Z) [] (by kernel_rfl) ?_
        refine RG.wpL_any fun Yz32 hY => ?_
        have HTz32 : Hid (Below W2.heap.size W2 Yz32):=by rw [hY];exact below_drewN HXr.out 1
        clear hY
        refine RG.wpL_take (fuel:=0) (a':=?Az32) [0,1,2,3,4,5,6,7,8,9,10,11,12,13,14,15,16,17,18,19,20,21,22,23,24,25,26,27,28,29,30,31,32,33,34,35,36,37,38,39,40,41,42,43,44,45,46] (by kernel_rfl) (by kernel_rfl) (fun _ _ _ _ _ h => h) HTz32.out (fun _ => trivial) ?rz32 ?_
        case rz32 =>
         refine RG.RunsIf.weak (v:=?_) (by rfl) (by rfl) (fun Z hT => ?_) ?_
         rotate_left
         ·go_simp
          rfl
         simp only [Act.put,lpA,lpZ,lpS,lgT,lgZ,lgS]
         refine RG.RunsIf.weak (v:=.int .i64 oj) (by rfl) (by rfl) (fun Z hT => ?_) ?_
         ·have x1:=keepC hT x1;have x2:=keepC hT x2;have x4:=keepC hT x4;obtain ⟨z0,z1,z2,z3,z4⟩:=cellsY5 (blk_keep NE.out hT)
          go_simp
         simp only [Act.put,lpA,lpZ,lpS,lgT,lgZ,lgS]
         iterate 2
          refine RG.RunsIf.weak (v:=.bool true) (by rfl) (by rfl) (fun Z hT => ?_) ?_
          ·go_simp
          simp only [Act.put,lpA,lpZ,lpS,lgT,lgZ,lgS]
         iterate 4
          refine RG.RunsIf.weak (v:=?_) (by rfl) (by rfl) (fun Z hT => ?_) ?_
          rotate_left
          ·go_simp
           rfl
          simp only [Act.put,lpA,lpZ,lpS,lgT,lgZ,lgS]
         refine RG.RunsIf.weak (v:=.int .i64 op) (by rfl) (by rfl) (fun Z hT => ?_) ?_
         ·have x1:=keepC hT x1;have x2:=keepC hT x2;have x4:=keepC hT x4;obtain ⟨z0,z1,z2,z3,z4⟩:=cellsY5 (blk_keep NE.out hT)
          go_simp
         simp only [Act.put,lpA,lpZ,lpS,lgT,lgZ,lgS]
         refine RG.RunsIf.weak (v:=.bool true) (by rfl) (by rfl) (fun Z hT => ?_) ?_
         ·go_simp
         simp only [Act.put,lpA,lpZ,lpS,lgT,lgZ,lgS]
         refine RG.RunsIf.weak (v:=.bool true) (by rfl) (by rfl) (fun Z hT => ?_) ?_
         ·(go_simp) <;> rfl
         simp only [Act.put,lpA,lpZ,lpS,lgT,lgZ,lgS]
         refine RG.RunsIf.weak (v:=.bool true) (by rfl) (by rfl) (fun Z hT => ?_) ?_
         ·go_simp
         simp only [Act.put,lpA,lpZ,lpS,lgT,lgZ,lgS]
         iterate 24
          refine RG.RunsIf.skip (by rfl) (by rfl) ?_
          simp only [Act.put,lpA,lpZ,lpS,lgT,lgZ,lgS]
         refine RG.RunsIf.weak (v:=.bool true) (by rfl) (by rfl) (fun Z hT => ?_) ?_
         ·(go_simp) <;> rfl
         simp only [Act.put,lpA,lpZ,lpS,lgT,lgZ,lgS]
         refine RG.RunsIf.weak (v:=.bool true) (by rfl) (by rfl) (fun Z hT => ?_) ?_
         ·go_simp
         simp only [Act.put,lpA,lpZ,lpS,lgT,lgZ,lgS]
         iterate 4
          refine RG.RunsIf.weak (v:=?_) (by rfl) (by rfl) (fun Z hT => ?_) ?_
          rotate_left
          ·go_simp
           rfl
          simp only [Act.put,lpA,lpZ,lpS,lgT,lgZ,lgS]
         refine RG.RunsIf.weak (v:=.int .i64 a) (by rfl) (by rfl) (fun Z hT => ?_) ?_
         ·have x1:=keepC hT x1;have x2:=keepC hT x2;have x4:=keepC hT x4;obtain ⟨z0,z1,z2,z3,z4⟩:=cellsY5 (blk_keep NE.out hT)
          go_simp
         simp only [Act.put,lpA,lpZ,lpS,lgT,lgZ,lgS]
         refine RG.RunsIf.weak (v:=?_) (by rfl) (by rfl) (fun Z hT => ?_) ?_
         rotate_left
         ·go_simp
          rfl
         simp only [Act.put,lpA,lpZ,lpS,lgT,lgZ,lgS]
         refine RG.RunsIf.weak (v:=.int .i64 aj) (by rfl) (by rfl) (fun Z hT => ?_) ?_
         ·have x1:=keepC hT x1;have x2:=keepC hT x2;have x4:=keepC hT x4;obtain ⟨z0,z1,z2,z3,z4⟩:=cellsY5 (blk_keep NE.out hT)
          go_simp
         simp only [Act.put,lpA,lpZ,lpS,lgT,lgZ,lgS]
         refine RG.RunsIf.weak (v:=.bool false) (by rfl) (by rfl) (fun Z hT => ?_) ?_
         ·go_simp
         simp only [Act.put,lpA,lpZ,lpS,lgT,lgZ,lgS]
         refine RG.RunsIf.weak (v:=.bool false) (by rfl) (by rfl) (fun Z hT => ?_) ?_
         ·(go_simp) <;> rfl
         simp only [Act.put,lpA,lpZ,lpS,lgT,lgZ,lgS]
         exact RG.RunsIf.nil
        refine RG.wpL_done (by kernel_rfl) ?_ _
        refine NoPanic.normal ?_
        refine HK8.out _ _ ?_
        clear HK8
        have HBn : Hid (Below w.heap.size w Yz32):=HBW.out.trans (HTz32.out.mono HBW.out.size)
        have NEn:=TW.hide (blk_keep NE.out HTz32.out)
        have NSn:=TW.hide (blk_keep NS.out HTz32.out)
        have HNu : Hid (Tr.nuC l j (i + 1) = Tr.nuC l j i):=by
         show _ = _
         rw [Tr.nuC_next l j i (by have:=HJl.out;omega),if_neg (by rw [HEVi.out,HEVj.out];rintro ⟨_,h⟩;exact ha h),Nat.add_zero]
        have hnl:=Tr.nuC_le l j (i + 1) (by have:=HJl.out;omega)
        rw [HNu.out] at hnl
        generalize Tr.nuC l j i = nu at *
        go_wp2
        refine HKb.out _ _ ?_
        go_wp2
        go_roundw
        case rel => exact ⟨i + 1,_,_,HLT.out,by go_num,rfl,rfl,by rw [HNu.out],HLb.out,NEn,NSn,HBn⟩
        case measure => simp [intOf];have:=HLT.out;omega
      ·have ki5 : (op == 5) = false:=by simp [hi5]
       refine wp_seq_k fun K8 hK8 => ?_
       have HK8:=TW.hide hK8
       clear hK8
       refine wp_region_noPanic ?_
       refine RG.wp_region_L (fun Z => True) (fun Z => Below W2.heap.size W2 Z) [] (by kernel_rfl) ?_
       refine RG.wpL_any fun Yz33 hY => ?_
       have HTz33 : Hid (Below W2.heap.size W2 Yz33):=by rw [hY];exact below_drewN HXr.out 1
       clear hY
       refine RG.wpL_take (fuel:=0) (a':=?Az33) [0,1,2,3,4,5,6,7,8,9,10,11,12,13,14,15,16,17,18,19,20,21,22,23,24,25,26,27,28,29,30,31,32,33,34,35,36,37,38,39,40,41,42,43,44,45,46] (by kernel_rfl) (by kernel_rfl) (fun _ _ _ _ _ h => h) HTz33.out (fun _ => trivial) ?rz33 ?_
       case rz33 =>
        refine RG.RunsIf.weak (v:=?_) (by rfl) (by rfl) (fun Z hT => ?_) ?_
        rotate_left
        ·go_simp
         rfl
        simp only [Act.put,lpA,lpZ,lpS,lgT,lgZ,lgS]
        refine RG.RunsIf.weak (v:=.int .i64 oj) (by rfl) (by rfl) (fun Z hT => ?_) ?_
        ·have x1:=keepC hT x1;have x2:=keepC hT x2;have x4:=keepC hT x4;obtain ⟨z0,z1,z2,z3,z4⟩:=cellsY5 (blk_keep NE.out hT)
         go_simp
        simp only [Act.put,lpA,lpZ,lpS,lgT,lgZ,lgS]
        iterate 2
         refine RG.RunsIf.weak (v:=.bool true) (by rfl) (by rfl) (fun Z hT => ?_) ?_
         ·go_simp
         simp only [Act.put,lpA,lpZ,lpS,lgT,lgZ,lgS]
        iterate 4
         refine RG.RunsIf.weak (v:=?_) (by rfl) (by rfl) (fun Z hT => ?_) ?_
         rotate_left
         ·go_simp
          rfl
         simp only [Act.put,lpA,lpZ,lpS,lgT,lgZ,lgS]
        refine RG.RunsIf.weak (v:=.int .i64 op) (by rfl) (by rfl) (fun Z hT => ?_) ?_
        ·have x1:=keepC hT x1;have x2:=keepC hT x2;have x4:=keepC hT x4;obtain ⟨z0,z1,z2,z3,z4⟩:=cellsY5 (blk_keep NE.out hT)
         go_simp
        simp only [Act.put,lpA,lpZ,lpS,lgT,lgZ,lgS]
        refine RG.RunsIf.weak (v:=.bool false) (by rfl) (by rfl) (fun Z hT => ?_) ?_
        ·go_simp
        simp only [Act.put,lpA,lpZ,lpS,lgT,lgZ,lgS]
        refine RG.RunsIf.weak (v:=.bool false) (by rfl) (by rfl) (fun Z hT => ?_) ?_
        ·(go_simp) <;> rfl
        simp only [Act.put,lpA,lpZ,lpS,lgT,lgZ,lgS]
        refine RG.RunsIf.weak (v:=.bool false) (by rfl) (by rfl) (fun Z hT => ?_) ?_
        ·go_simp
        simp only [Act.put,lpA,lpZ,lpS,lgT,lgZ,lgS]
        refine RG.RunsIf.weak (v:=?_) (by rfl) (by rfl) (fun Z hT => ?_) ?_
        rotate_left
        ·go_simp
         rfl
        simp only [Act.put,lpA,lpZ,lpS,lgT,lgZ,lgS]
        refine RG.RunsIf.weak (v:=.int .i64 oj) (by rfl) (by rfl) (fun Z hT => ?_) ?_
        ·have x1:=keepC hT x1;have x2:=keepC hT x2;have x4:=keepC hT x4;obtain ⟨z0,z1,z2,z3,z4⟩:=cellsY5 (blk_keep NE.out hT)
         go_simp
        simp only [Act.put,lpA,lpZ,lpS,lgT,lgZ,lgS]
        iterate 2
         refine RG.RunsIf.weak (v:=.bool false) (by rfl) (by rfl) (fun Z hT => ?_) ?_
         ·go_simp
         simp only [Act.put,lpA,lpZ,lpS,lgT,lgZ,lgS]
        iterate 3
         refine RG.RunsIf.skip (by rfl) (by rfl) ?_
         simp only [Act.put,lpA,lpZ,lpS,lgT,lgZ,lgS]
        refine RG.RunsIf.weak (v:=.bool false) (by rfl) (by rfl) (fun Z hT => ?_) ?_
        ·(go_simp) <;> rfl
        simp only [Act.put,lpA,lpZ,lpS,lgT,lgZ,lgS]
        refine RG.RunsIf.weak (v:=.bool false) (by rfl) (by rfl) (fun Z hT => ?_) ?_
        ·go_simp
        simp only [Act.put,lpA,lpZ,lpS,lgT,lgZ,lgS]
        iterate 6
         refine RG.RunsIf.skip (by rfl) (by rfl) ?_
         simp only [Act.put,lpA,lpZ,lpS,lgT,lgZ,lgS]
        refine RG.RunsIf.weak (v:=.bool false) (by rfl) (by rfl) (fun Z hT => ?_) ?_
        ·(go_simp) <;> rfl
        simp only [Act.put,lpA,lpZ,lpS,lgT,lgZ,lgS]
        refine RG.RunsIf.weak (v:=.bool false) (by rfl) (by rfl) (fun Z hT => ?_) ?_
        ·go_simp
        simp only [Act.put,lpA,lpZ,lpS,lgT,lgZ,lgS]
        iterate 6
         refine RG.RunsIf.skip (by rfl) (by rfl) ?_
         simp only [Act.put,lpA,lpZ,lpS,lgT,lgZ,lgS]
        iterate 2
         refine RG.RunsIf.weak (v:=.bool false) (by rfl) (by rfl) (fun Z hT => ?_) ?_
         ·(go_simp) <;> rfl
         simp only [Act.put,lpA,lpZ,lpS,lgT,lgZ,lgS]
        refine RG.RunsIf.weak (v:=.bool false) (by rfl) (by rfl) (fun Z hT => ?_) ?_
        ·go_simp
        simp only [Act.put,lpA,lpZ,lpS,lgT,lgZ,lgS]
        iterate 8
         refine RG.RunsIf.skip (by rfl) (by rfl) ?_
         simp only [Act.put,lpA,lpZ,lpS,lgT,lgZ,lgS]
        refine RG.RunsIf.weak (v:=.bool false) (by rfl) (by rfl) (fun Z hT => ?_) ?_
        ·(go_simp) <;> rfl
        simp only [Act.put,lpA,lpZ,lpS,lgT,lgZ,lgS]
        exact RG.RunsIf.nil
       refine RG.wpL_done (by kernel_rfl) ?_ _
       refine NoPanic.normal ?_
       refine HK8.out _ _ ?_
       clear HK8
       have HBn : Hid (Below w.heap.size w Yz33):=HBW.out.trans (HTz33.out.mono HBW.out.size)
       have NEn:=TW.hide (blk_keep NE.out HTz33.out)
       have NSn:=TW.hide (blk_keep NS.out HTz33.out)
       have HNu : Hid (Tr.nuC l j (i + 1) = Tr.nuC l j i):=by
        show _ = _
        rw [Tr.nuC_next l j i (by have:=HJl.out;omega),if_neg (by rw [HEVi.out,HEVj.out];rintro ⟨h | h,_⟩;exact hi5 h.2;have:=h.1;dsimp only at this;omega),Nat.add_zero]
       have hnl:=Tr.nuC_le l j (i + 1) (by have:=HJl.out;omega)
       rw [HNu.out] at hnl
       generalize Tr.nuC l j i = nu at *
       go_wp2
       refine HKb.out _ _ ?_
       go_wp2
       go_roundw
       case rel => exact ⟨i + 1,_,_,HLT.out,by go_num,rfl,rfl,by rw [HNu.out],HLb.out,NEn,NSn,HBn⟩
       case measure => simp [intOf];have:=HLT.out;omega
     ·have k5 : (oj == 5) = false:=by simp [h5]
      by_cases h6 : oj = 6
      ·have k6 : (oj == 6) = true:=by simp [h6]
       cases sj with
       | true =>
        refine wp_seq_k fun K8 hK8 => ?_
        have HK8:=TW.hide hK8
        clear hK8
        refine wp_region_noPanic ?_
        refine RG.wp_region_L (fun Z => True) (fun Z => Below W2.heap.size W2 Z) [] (by kernel_rfl) ?_
        refine RG.wpL_any fun Yz34 hY => ?_
        have HTz34 : Hid (Below W2.heap.size W2 Yz34):=by rw [hY];exact below_drewN HXr.out 1
        clear hY
        refine RG.wpL_take (fuel:=0) (a':=?Az34) [0,1,2,3,4,5,6,7,8,9,10,11,12,13,14,15,16,17,18,19,20,21,22,23,24,25,26,27,28,29,30,31,32,33,34,35,36,37,38,39,40,41,42,43,44,45,46] (by kernel_rfl) (by kernel_rfl) (fun _ _ _ _ _ h => h) HTz34.out (fun _ => trivial) ?rz34 ?_
        case rz34 =>
         refine RG.RunsIf.weak (v:=?_) (by rfl) (by rfl) (fun Z hT => ?_) ?_
         rotate_left
         ·go_simp
          rfl
         simp only [Act.put,lpA,lpZ,lpS,lgT,lgZ,lgS]
         refine RG.RunsIf.weak (v:=.int .i64 oj) (by rfl) (by rfl) (fun Z hT => ?_) ?_
         ·have x1:=keepC hT x1;have x2:=keepC hT x2;have x4:=keepC hT x4;obtain ⟨z0,z1,z2,z3,z4⟩:=cellsY5 (blk_keep NE.out hT)
          go_simp
         simp only [Act.put,lpA,lpZ,lpS,lgT,lgZ,lgS]
         iterate 2
          refine RG.RunsIf.weak (v:=.bool false) (by rfl) (by rfl) (fun Z hT => ?_) ?_
          ·go_simp
          simp only [Act.put,lpA,lpZ,lpS,lgT,lgZ,lgS]
         iterate 6
          refine RG.RunsIf.skip (by rfl) (by rfl) ?_
          simp only [Act.put,lpA,lpZ,lpS,lgT,lgZ,lgS]
         refine RG.RunsIf.weak (v:=.bool false) (by rfl) (by rfl) (fun Z hT => ?_) ?_
         ·(go_simp) <;> rfl
         simp only [Act.put,lpA,lpZ,lpS,lgT,lgZ,lgS]
         refine RG.RunsIf.weak (v:=.bool false) (by rfl) (by rfl) (fun Z hT => ?_) ?_
         ·go_simp
         simp only [Act.put,lpA,lpZ,lpS,lgT,lgZ,lgS]
         refine RG.RunsIf.weak (v:=?_) (by rfl) (by rfl) (fun Z hT => ?_) ?_
         rotate_left
         ·go_simp
          rfl
         simp only [Act.put,lpA,lpZ,lpS,lgT,lgZ,lgS]
         refine RG.RunsIf.weak (v:=.int .i64 oj) (by rfl) (by rfl) (fun Z hT => ?_) ?_
         ·have x1:=keepC hT x1;have x2:=keepC hT x2;have x4:=keepC hT x4;obtain ⟨z0,z1,z2,z3,z4⟩:=cellsY5 (blk_keep NE.out hT)
          go_simp
         simp only [Act.put,lpA,lpZ,lpS,lgT,lgZ,lgS]
         iterate 2
          refine RG.RunsIf.weak (v:=.bool true) (by rfl) (by rfl) (fun Z hT => ?_) ?_
          ·go_simp
          simp only [Act.put,lpA,lpZ,lpS,lgT,lgZ,lgS]
         refine RG.RunsIf.weak (v:=?_) (by rfl) (by rfl) (fun Z hT => ?_) ?_
         rotate_left
         ·go_simp
          rfl
         simp only [Act.put,lpA,lpZ,lpS,lgT,lgZ,lgS]
         refine RG.RunsIf.weak (v:=.bool true) (by rfl) (by rfl) (fun Z hT => ?_) ?_
         ·have x1:=keepC hT x1;have x2:=keepC hT x2;have x4:=keepC hT x4;obtain ⟨z0,z1,z2,z3,z4⟩:=cellsY5 (blk_keep NE.out hT)
          go_simp
         simp only [Act.put,lpA,lpZ,lpS,lgT,lgZ,lgS]
         refine RG.RunsIf.weak (v:=.bool false) (by rfl) (by rfl) (fun Z hT => ?_) ?_
         ·go_simp
         simp only [Act.put,lpA,lpZ,lpS,lgT,lgZ,lgS]
         refine RG.RunsIf.weak (v:=.bool false) (by rfl) (by rfl) (fun Z hT => ?_) ?_
         ·(go_simp) <;> rfl
         simp only [Act.put,lpA,lpZ,lpS,lgT,lgZ,lgS]
         refine RG.RunsIf.weak (v:=.bool false) (by rfl) (by rfl) (fun Z hT => ?_) ?_
         ·go_simp
         simp only [Act.put,lpA,lpZ,lpS,lgT,lgZ,lgS]
         iterate 6
          refine RG.RunsIf.skip (by rfl) (by rfl) ?_
          simp only [Act.put,lpA,lpZ,lpS,lgT,lgZ,lgS]
         refine RG.RunsIf.weak (v:=.bool false) (by rfl) (by rfl) (fun Z hT => ?_) ?_
         ·(go_simp) <;> rfl
         simp only [Act.put,lpA,lpZ,lpS,lgT,lgZ,lgS]
         refine RG.RunsIf.weak (v:=.bool false) (by rfl) (by rfl) (fun Z hT => ?_) ?_
         ·go_simp
         simp only [Act.put,lpA,lpZ,lpS,lgT,lgZ,lgS]
         iterate 6
          refine RG.RunsIf.skip (by rfl) (by rfl) ?_
          simp only [Act.put,lpA,lpZ,lpS,lgT,lgZ,lgS]
         iterate 2
          refine RG.RunsIf.weak (v:=.bool false) (by rfl) (by rfl) (fun Z hT => ?_) ?_
          ·(go_simp) <;> rfl
          simp only [Act.put,lpA,lpZ,lpS,lgT,lgZ,lgS]
         refine RG.RunsIf.weak (v:=.bool false) (by rfl) (by rfl) (fun Z hT => ?_) ?_
         ·go_simp
         simp only [Act.put,lpA,lpZ,lpS,lgT,lgZ,lgS]
         iterate 8
          refine RG.RunsIf.skip (by rfl) (by rfl) ?_
          simp only [Act.put,lpA,lpZ,lpS,lgT,lgZ,lgS]
         refine RG.RunsIf.weak (v:=.bool false) (by rfl) (by rfl) (fun Z hT => ?_) ?_
         ·(go_simp) <;> rfl
         simp only [Act.put,lpA,lpZ,lpS,lgT,lgZ,lgS]
         exact RG.RunsIf.nil
        refine RG.wpL_done (by kernel_rfl) ?_ _
        refine NoPanic.normal ?_
        refine HK8.out _ _ ?_
        clear HK8
        have HBn : Hid (Below w.heap.size w Yz34):=HBW.out.trans (HTz34.out.mono HBW.out.size)
        have NEn:=TW.hide (blk_keep NE.out HTz34.out)
        have NSn:=TW.hide (blk_keep NS.out HTz34.out)
        have HNu : Hid (Tr.nuC l j (i + 1) = Tr.nuC l j i):=by
         show _ = _
         rw [Tr.nuC_next l j i (by have:=HJl.out;omega),if_neg (by rw [HEVi.out,HEVj.out];rintro ⟨h | h,_⟩;exact h5 h.1;have:=h.2.1;cases this),Nat.add_zero]
        have hnl:=Tr.nuC_le l j (i + 1) (by have:=HJl.out;omega)
        rw [HNu.out] at hnl
        generalize Tr.nuC l j i = nu at *
        go_wp2
        refine HKb.out _ _ ?_
        go_wp2
        go_roundw
        case rel => exact ⟨i + 1,_,_,HLT.out,by go_num,rfl,rfl,by rw [HNu.out],HLb.out,NEn,NSn,HBn⟩
        case measure => simp [intOf];have:=HLT.out;omega
       | false =>
        by_cases hi6 : op = 6
        ·have ki6 : (op == 6) = true:=by simp [hi6]
         cases sh with
         | true =>
          refine wp_seq_k fun K8 hK8 => ?_
          have HK8:=TW.hide hK8
          clear hK8
          refine wp_region_noPanic ?_
          refine RG.wp_region_L (fun Z => True) (fun Z => Below W2.heap.size W2 Z) [] (by kernel_rfl) ?_
          refine RG.wpL_any fun Yz35 hY => ?_
          have HTz35 : Hid (Below W2.heap.size W2 Yz35):=by rw [hY];exact below_drewN HXr.out 1
          clear hY
          refine RG.wpL_take (fuel:=0) (a':=?Az35) [0,1,2,3,4,5,6,7,8,9,10,11,12,13,14,15,16,17,18,19,20,21,22,23,24,25,26,27,28,29,30,31,32,33,34,35,36,37,38,39,40,41,42,43,44,45,46] (by kernel_rfl) (by kernel_rfl) (fun _ _ _ _ _ h => h) HTz35.out (fun _ => trivial) ?rz35 ?_
          case rz35 =>
           refine RG.RunsIf.weak (v:=?_) (by rfl) (by rfl) (fun Z hT => ?_) ?_
           rotate_left
           ·go_simp
            rfl
           simp only [Act.put,lpA,lpZ,lpS,lgT,lgZ,lgS]
           refine RG.RunsIf.weak (v:=.int .i64 oj) (by rfl) (by rfl) (fun Z hT => ?_) ?_
           ·have x1:=keepC hT x1;have x2:=keepC hT x2;have x4:=keepC hT x4;obtain ⟨z0,z1,z2,z3,z4⟩:=cellsY5 (blk_keep NE.out hT)
            go_simp
           simp only [Act.put,lpA,lpZ,lpS,lgT,lgZ,lgS]
           iterate 2
            refine RG.RunsIf.weak (v:=.bool false) (by rfl) (by rfl) (fun Z hT => ?_) ?_
            ·go_simp
            simp only [Act.put,lpA,lpZ,lpS,lgT,lgZ,lgS]
           iterate 6
            refine RG.RunsIf.skip (by rfl) (by rfl) ?_
            simp only [Act.put,lpA,lpZ,lpS,lgT,lgZ,lgS]
           refine RG.RunsIf.weak (v:=.bool false) (by rfl) (by rfl) (fun Z hT => ?_) ?_
           ·(go_simp) <;> rfl
           simp only [Act.put,lpA,lpZ,lpS,lgT,lgZ,lgS]
           refine RG.RunsIf.weak (v:=.bool false) (by rfl) (by rfl) (fun Z hT => ?_) ?_
           ·go_simp
           simp only [Act.put,lpA,lpZ,lpS,lgT,lgZ,lgS]
           refine RG.RunsIf.weak (v:=?_) (by rfl) (by rfl) (fun Z hT => ?_) ?_
           rotate_left
           ·go_simp
            rfl
           simp only [Act.put,lpA,lpZ,lpS,lgT,lgZ,lgS]
           refine RG.RunsIf.weak (v:=.int .i64 oj) (by rfl) (by rfl) (fun Z hT => ?_) ?_
           ·have x1:=keepC hT x1;have x2:=keepC hT x2;have x4:=keepC hT x4;obtain ⟨z0,z1,z2,z3,z4⟩:=cellsY5 (blk_keep NE.out hT)
            go_simp
           simp only [Act.put,lpA,lpZ,lpS,lgT,lgZ,lgS]
           iterate 2
            refine RG.RunsIf.weak (v:=.bool true) (by rfl) (by rfl) (fun Z hT => ?_) ?_
            ·go_simp
            simp only [Act.put,lpA,lpZ,lpS,lgT,lgZ,lgS]
           refine RG.RunsIf.weak (v:=?_) (by rfl) (by rfl) (fun Z hT => ?_) ?_
           rotate_left
           ·go_simp
            rfl
           simp only [Act.put,lpA,lpZ,lpS,lgT,lgZ,lgS]
           refine RG.RunsIf.weak (v:=.bool false) (by rfl) (by rfl) (fun Z hT => ?_) ?_
           ·have x1:=keepC hT x1;have x2:=keepC hT x2;have x4:=keepC hT x4;obtain ⟨z0,z1,z2,z3,z4⟩:=cellsY5 (blk_keep NE.out hT)
            go_simp
           simp only [Act.put,lpA,lpZ,lpS,lgT,lgZ,lgS]
           refine RG.RunsIf.weak (v:=.bool true) (by rfl) (by rfl) (fun Z hT => ?_) ?_
           ·go_simp
           simp only [Act.put,lpA,lpZ,lpS,lgT,lgZ,lgS]
           refine RG.RunsIf.weak (v:=.bool true) (by rfl) (by rfl) (fun Z hT => ?_) ?_
           ·(go_simp) <;> rfl
           simp only [Act.put,lpA,lpZ,lpS,lgT,lgZ,lgS]
           refine RG.RunsIf.weak (v:=.bool true) (by rfl) (by rfl) (fun Z hT => ?_) ?_
           ·go_simp
           simp only [Act.put,lpA,lpZ,lpS,lgT,lgZ,lgS]
           iterate 4
            refine RG.RunsIf.weak (v:=?_) (by rfl) (by rfl) (fun Z hT => ?_) ?_
            rotate_left
            ·go_simp
             rfl
            simp only [Act.put,lpA,lpZ,lpS,lgT,lgZ,lgS]
           refine RG.RunsIf.weak (v:=.int .i64 op) (by rfl) (by rfl) (fun Z hT => ?_) ?_
           ·have x1:=keepC hT x1;have x2:=keepC hT x2;have x4:=keepC hT x4;obtain ⟨z0,z1,z2,z3,z4⟩:=cellsY5 (blk_keep NE.out hT)
            go_simp
           simp only [Act.put,lpA,lpZ,lpS,lgT,lgZ,lgS]
           refine RG.RunsIf.weak (v:=.bool true) (by rfl) (by rfl) (fun Z hT => ?_) ?_
           ·go_simp
           simp only [Act.put,lpA,lpZ,lpS,lgT,lgZ,lgS]
           refine RG.RunsIf.weak (v:=.bool true) (by rfl) (by rfl) (fun Z hT => ?_) ?_
           ·(go_simp) <;> rfl
           simp only [Act.put,lpA,lpZ,lpS,lgT,lgZ,lgS]
           refine RG.RunsIf.weak (v:=.bool true) (by rfl) (by rfl) (fun Z hT => ?_) ?_
           ·go_simp
           simp only [Act.put,lpA,lpZ,lpS,lgT,lgZ,lgS]
           iterate 4
            refine RG.RunsIf.weak (v:=?_) (by rfl) (by rfl) (fun Z hT => ?_) ?_
            rotate_left
            ·go_simp
             rfl
            simp only [Act.put,lpA,lpZ,lpS,lgT,lgZ,lgS]
           refine RG.RunsIf.weak (v:=.bool true) (by rfl) (by rfl) (fun Z hT => ?_) ?_
           ·have x1:=keepC hT x1;have x2:=keepC hT x2;have x4:=keepC hT x4;obtain ⟨z0,z1,z2,z3,z4⟩:=cellsY5 (blk_keep NE.out hT)
            go_simp
           simp only [Act.put,lpA,lpZ,lpS,lgT,lgZ,lgS]
           refine RG.RunsIf.weak (v:=.bool false) (by rfl) (by rfl) (fun Z hT => ?_) ?_
           ·go_simp
           simp only [Act.put,lpA,lpZ,lpS,lgT,lgZ,lgS]
           iterate 2
            refine RG.RunsIf.weak (v:=.bool false) (by rfl) (by rfl) (fun Z hT => ?_) ?_
            ·(go_simp) <;> rfl
            simp only [Act.put,lpA,lpZ,lpS,lgT,lgZ,lgS]
           refine RG.RunsIf.weak (v:=.bool false) (by rfl) (by rfl) (fun Z hT => ?_) ?_
           ·go_simp
           simp only [Act.put,lpA,lpZ,lpS,lgT,lgZ,lgS]
           iterate 8
            refine RG.RunsIf.skip (by rfl) (by rfl) ?_
            simp only [Act.put,lpA,lpZ,lpS,lgT,lgZ,lgS]
           refine RG.RunsIf.weak (v:=.bool false) (by rfl) (by rfl) (fun Z hT => ?_) ?_
           ·(go_simp) <;> rfl
           simp only [Act.put,lpA,lpZ,lpS,lgT,lgZ,lgS]
           exact RG.RunsIf.nil
          refine RG.wpL_done (by kernel_rfl) ?_ _
          refine NoPanic.normal ?_
          refine HK8.out _ _ ?_
          clear HK8
          have HBn : Hid (Below w.heap.size w Yz35):=HBW.out.trans (HTz35.out.mono HBW.out.size)
          have NEn:=TW.hide (blk_keep NE.out HTz35.out)
          have NSn:=TW.hide (blk_keep NS.out HTz35.out)
          have HNu : Hid (Tr.nuC l j (i + 1) = Tr.nuC l j i):=by
           show _ = _
           rw [Tr.nuC_next l j i (by have:=HJl.out;omega),if_neg (by rw [HEVi.out,HEVj.out];rintro ⟨h | h,_⟩;exact h5 h.1;have:=h.2.2.2;cases this),Nat.add_zero]
          have hnl:=Tr.nuC_le l j (i + 1) (by have:=HJl.out;omega)
          rw [HNu.out] at hnl
          generalize Tr.nuC l j i = nu at *
          go_wp2
          refine HKb.out _ _ ?_
          go_wp2
          go_roundw
          case rel => exact ⟨i + 1,_,_,HLT.out,by go_num,rfl,rfl,by rw [HNu.out],HLb.out,NEn,NSn,HBn⟩
          case measure => simp [intOf];have:=HLT.out;omega
         | false =>
          by_cases ha : a = aj
          ·have ka : (a == aj) = true:=by simp [ha]
           refine wp_seq_k fun K8 hK8 => ?_
           have HK8:=TW.hide hK8
           clear hK8
           refine wp_region_noPanic ?_
           refine RG.wp_region_L (fun Z => True) (fun Z => Below W2.heap.size W2 Z) [] (by kernel_rfl) ?_
           refine RG.wpL_any fun Yz36 hY => ?_
           have HTz36 : Hid (Below W2.heap.size W2 Yz36):=by rw [hY];exact below_drewN HXr.out 1
           clear hY
           refine RG.wpL_take (fuel:=0) (a':=?Az36) [0,1,2,3,4,5,6,7,8,9,10,11,12,13,14,15,16,17,18,19,20,21,22,23,24,25,26,27,28,29,30,31,32,33,34,35,36,37,38,39,40,41,42,43,44,45,46] (by kernel_rfl) (by kernel_rfl) (fun _ _ _ _ _ h => h) HTz36.out (fun _ => trivial) ?rz36 ?_
           case rz36 =>
            refine RG.RunsIf.weak (v:=?_) (by rfl) (by rfl) (fun Z hT => ?_) ?_
            rotate_left
            ·go_simp
             rfl
            simp only [Act.put,lpA,lpZ,lpS,lgT,lgZ,lgS]
            refine RG.RunsIf.weak (v:=.int .i64 oj) (by rfl) (by rfl) (fun Z hT => ?_) ?_
            ·have x1:=keepC hT x1;have x2:=keepC hT x2;have x4:=keepC hT x4;obtain ⟨z0,z1,z2,z3,z4⟩:=cellsY5 (blk_keep NE.out hT)
             go_simp
            simp only [Act.put,lpA,lpZ,lpS,lgT,lgZ,lgS]
            iterate 2
             refine RG.RunsIf.weak (v:=.bool false) (by rfl) (by rfl) (fun Z hT => ?_) ?_
             ·go_simp
             simp only [Act.put,lpA,lpZ,lpS,lgT,lgZ,lgS]
            iterate 6
             refine RG.RunsIf.skip (by rfl) (by rfl) ?_
             simp only [Act.put,lpA,lpZ,lpS,lgT,lgZ,lgS]
            refine RG.RunsIf.weak (v:=.bool false) (by rfl) (by rfl) (fun Z hT => ?_) ?_
            ·(go_simp) <;> rfl
            simp only [Act.put,lpA,lpZ,lpS,lgT,lgZ,lgS]
            refine RG.RunsIf.weak (v:=.bool false) (by rfl) (by rfl) (fun Z hT => ?_) ?_
            ·go_simp
            simp only [Act.put,lpA,lpZ,lpS,lgT,lgZ,lgS]
            refine RG.RunsIf.weak (v:=?_) (by rfl) (by rfl) (fun Z hT => ?_) ?_
            rotate_left
            ·go_simp
             rfl
            simp only [Act.put,lpA,lpZ,lpS,lgT,lgZ,lgS]
            refine RG.RunsIf.weak (v:=.int .i64 oj) (by rfl) (by rfl) (fun Z hT => ?_) ?_
            ·have x1:=keepC hT x1;have x2:=keepC hT x2;have x4:=keepC hT x4;obtain ⟨z0,z1,z2,z3,z4⟩:=cellsY5 (blk_keep NE.out hT)
             go_simp
            simp only [Act.put,lpA,lpZ,lpS,lgT,lgZ,lgS]
            iterate 2
             refine RG.RunsIf.weak (v:=.bool true) (by rfl) (by rfl) (fun Z hT => ?_) ?_
             ·go_simp
             simp only [Act.put,lpA,lpZ,lpS,lgT,lgZ,lgS]
            refine RG.RunsIf.weak (v:=?_) (by rfl) (by rfl) (fun Z hT => ?_) ?_
            rotate_left
            ·go_simp
             rfl
            simp only [Act.put,lpA,lpZ,lpS,lgT,lgZ,lgS]
            refine RG.RunsIf.weak (v:=.bool false) (by rfl) (by rfl) (fun Z hT => ?_) ?_
            ·have x1:=keepC hT x1;have x2:=keepC hT x2;have x4:=keepC hT x4;obtain ⟨z0,z1,z2,z3,z4⟩:=cellsY5 (blk_keep NE.out hT)
             go_simp
            simp only [Act.put,lpA,lpZ,lpS,lgT,lgZ,lgS]
            refine RG.RunsIf.weak (v:=.bool true) (by rfl) (by rfl) (fun Z hT => ?_) ?_
            ·go_simp
            simp only [Act.put,lpA,lpZ,lpS,lgT,lgZ,lgS]
            refine RG.RunsIf.weak (v:=.bool true) (by rfl) (by rfl) (fun Z hT => ?_) ?_
            ·(go_simp) <;> rfl
            simp only [Act.put,lpA,lpZ,lpS,lgT,lgZ,lgS]
            refine RG.RunsIf.weak (v:=.bool true) (by rfl) (by rfl) (fun Z hT => ?_) ?_
            ·go_simp
            simp only [Act.put,lpA,lpZ,lpS,lgT,lgZ,lgS]
            iterate 4
             refine RG.RunsIf.weak (v:=?_) (by rfl) (by rfl) (fun Z hT => ?_) ?_
             rotate_left
             ·go_simp
              rfl
             simp only [Act.put,lpA,lpZ,lpS,lgT,lgZ,lgS]
            refine RG.RunsIf.weak (v:=.int .i64 op) (by rfl) (by rfl) (fun Z hT => ?_) ?_
            ·have x1:=keepC hT x1;have x2:=keepC hT x2;have x4:=keepC hT x4;obtain ⟨z0,z1,z2,z3,z4⟩:=cellsY5 (blk_keep NE.out hT)
             go_simp
            simp only [Act.put,lpA,lpZ,lpS,lgT,lgZ,lgS]
            refine RG.RunsIf.weak (v:=.bool true) (by rfl) (by rfl) (fun Z hT => ?_) ?_
            ·go_simp
            simp only [Act.put,lpA,lpZ,lpS,lgT,lgZ,lgS]
            refine RG.RunsIf.weak (v:=.bool true) (by rfl) (by rfl) (fun Z hT => ?_) ?_
            ·(go_simp) <;> rfl
            simp only [Act.put,lpA,lpZ,lpS,lgT,lgZ,lgS]
            refine RG.RunsIf.weak (v:=.bool true) (by rfl) (by rfl) (fun Z hT => ?_) ?_
            ·go_simp
            simp only [Act.put,lpA,lpZ,lpS,lgT,lgZ,lgS]
            iterate 4
             refine RG.RunsIf.weak (v:=?_) (by rfl) (by rfl) (fun Z hT => ?_) ?_
             rotate_left
             ·go_simp
              rfl
             simp only [Act.put,lpA,lpZ,lpS,lgT,lgZ,lgS]
            refine RG.RunsIf.weak (v:=.bool false) (by rfl) (by rfl) (fun Z hT => ?_) ?_
            ·have x1:=keepC hT x1;have x2:=keepC hT x2;have x4:=keepC hT x4;obtain ⟨z0,z1,z2,z3,z4⟩:=cellsY5 (blk_keep NE.out hT)
             go_simp
            simp only [Act.put,lpA,lpZ,lpS,lgT,lgZ,lgS]
            refine RG.RunsIf.weak (v:=.bool true) (by rfl) (by rfl) (fun Z hT => ?_) ?_
            ·go_simp
            simp only [Act.put,lpA,lpZ,lpS,lgT,lgZ,lgS]
            iterate 2
             refine RG.RunsIf.weak (v:=.bool true) (by rfl) (by rfl) (fun Z hT => ?_) ?_
             ·(go_simp) <;> rfl
             simp only [Act.put,lpA,lpZ,lpS,lgT,lgZ,lgS]
            refine RG.RunsIf.weak (v:=.bool true) (by rfl) (by rfl) (fun Z hT => ?_) ?_
            ·go_simp
            simp only [Act.put,lpA,lpZ,lpS,lgT,lgZ,lgS]
            iterate 4
             refine RG.RunsIf.weak (v:=?_) (by rfl) (by rfl) (fun Z hT => ?_) ?_
             rotate_left
             ·go_simp
              rfl
             simp only [Act.put,lpA,lpZ,lpS,lgT,lgZ,lgS]
            refine RG.RunsIf.weak (v:=.int .i64 a) (by rfl) (by rfl) (fun Z hT => ?_) ?_
            ·have x1:=keepC hT x1;have x2:=keepC hT x2;have x4:=keepC hT x4;obtain ⟨z0,z1,z2,z3,z4⟩:=cellsY5 (blk_keep NE.out hT)
             go_simp
            simp only [Act.put,lpA,lpZ,lpS,lgT,lgZ,lgS]
            refine RG.RunsIf.weak (v:=?_) (by rfl) (by rfl) (fun Z hT => ?_) ?_
            rotate_left
            ·go_simp
             rfl
            simp only [Act.put,lpA,lpZ,lpS,lgT,lgZ,lgS]
            refine RG.RunsIf.weak (v:=.int .i64 aj) (by rfl) (by rfl) (fun Z hT => ?_) ?_
            ·have x1:=keepC hT x1;have x2:=keepC hT x2;have x4:=keepC hT x4;obtain ⟨z0,z1,z2,z3,z4⟩:=cellsY5 (blk_keep NE.out hT)
             go_simp
            simp only [Act.put,lpA,lpZ,lpS,lgT,lgZ,lgS]
            refine RG.RunsIf.weak (v:=.bool true) (by rfl) (by rfl) (fun Z hT => ?_) ?_
            ·go_simp
            simp only [Act.put,lpA,lpZ,lpS,lgT,lgZ,lgS]
            refine RG.RunsIf.weak (v:=.bool true) (by rfl) (by rfl) (fun Z hT => ?_) ?_
            ·(go_simp) <;> rfl
            simp only [Act.put,lpA,lpZ,lpS,lgT,lgZ,lgS]
            exact RG.RunsIf.nil
           refine RG.wpL_done (by kernel_rfl) ?_ _
           refine NoPanic.normal ?_
           refine HK8.out _ _ ?_
           clear HK8
           have HBn : Hid (Below w.heap.size w Yz36):=HBW.out.trans (HTz36.out.mono HBW.out.size)
           have NEn:=TW.hide (blk_keep NE.out HTz36.out)
           have NSn:=TW.hide (blk_keep NS.out HTz36.out)
           have HNu : Hid (Tr.nuC l j (i + 1) = Tr.nuC l j i + 1):=by
            show _ = _
            rw [Tr.nuC_next l j i (by have:=HJl.out;omega),if_pos (by rw [HEVi.out,HEVj.out];exact ⟨.inr ⟨h6,rfl,hi6,rfl⟩,ha⟩)]
           have hnl:=Tr.nuC_le l j (i + 1) (by have:=HJl.out;omega)
           rw [HNu.out] at hnl
           generalize Tr.nuC l j i = nu at *
           go_wp2
           refine HKb.out _ _ ?_
           go_wp2
           go_roundw
           case rel => exact ⟨i + 1,_,_,HLT.out,by go_num,rfl,rfl,by rw [HNu.out];go_num,HLb.out,NEn,NSn,HBn⟩
           case measure => simp [intOf];have:=HLT.out;omega
          ·have ka : (a == aj) = false:=by simp [ha]
           refine wp_seq_k fun K8 hK8 => ?_
           have HK8:=TW.hide hK8
           clear hK8
           refine wp_region_noPanic ?_
           refine RG.wp_region_L (fun Z => True) (fun Z => Below W2.heap.size W2 Z) [] (by kernel_rfl) ?_
           refine RG.wpL_any fun Yz37 hY => ?_
           have HTz37 : Hid (Below W2.heap.size W2 Yz37):=by rw [hY];exact below_drewN HXr.out 1
           clear hY
           refine RG.wpL_take (fuel:=0) (a':=?Az37) [0,1,2,3,4,5,6,7,8,9,10,11,12,13,14,15,16,17,18,19,20,21,22,23,24,25,26,27,28,29,30,31,32,33,34,35,36,37,38,39,40,41,42,43,44,45,46] (by kernel_rfl) (by kernel_rfl) (fun _ _ _ _ _ h => h) HTz37.out (fun _ => trivial) ?rz37 ?_
           case rz37 =>
            refine RG.RunsIf.weak (v:=?_) (by rfl) (by rfl) (fun Z hT => ?_) ?_
            rotate_left
            ·go_simp
             rfl
            simp only [Act.put,lpA,lpZ,lpS,lgT,lgZ,lgS]
            refine RG.RunsIf.weak (v:=.int .i64 oj) (by rfl) (by rfl) (fun Z hT => ?_) ?_
            ·have x1:=keepC hT x1;have x2:=keepC hT x2;have x4:=keepC hT x4;obtain ⟨z0,z1,z2,z3,z4⟩:=cellsY5 (blk_keep NE.out hT)
             go_simp
            simp only [Act.put,lpA,lpZ,lpS,lgT,lgZ,lgS]
            iterate 2
             refine RG.RunsIf.weak (v:=.bool false) (by rfl) (by rfl) (fun Z hT => ?_) ?_
             ·go_simp
             simp only [Act.put,lpA,lpZ,lpS,lgT,lgZ,lgS]
            iterate 6
             refine RG.RunsIf.skip (by rfl) (by rfl) ?_
             simp only [Act.put,lpA,lpZ,lpS,lgT,lgZ,lgS]
            refine RG.RunsIf.weak (v:=.bool false) (by rfl) (by rfl) (fun Z hT => ?_) ?_
            ·(go_simp) <;> rfl
            simp only [Act.put,lpA,lpZ,lpS,lgT,lgZ,lgS]
            refine RG.RunsIf.weak (v:=.bool false) (by rfl) (by rfl) (fun Z hT => ?_) ?_
            ·go_simp
            simp only [Act.put,lpA,lpZ,lpS,lgT,lgZ,lgS]
            refine RG.RunsIf.weak (v:=?_) (by rfl) (by rfl) (fun Z hT => ?_) ?_
            rotate_left
            ·go_simp
             rfl
            simp only [Act.put,lpA,lpZ,lpS,lgT,lgZ,lgS]
            refine RG.RunsIf.weak (v:=.int .i64 oj) (by rfl) (by rfl) (fun Z hT => ?_) ?_
            ·have x1:=keepC hT x1;have x2:=keepC hT x2;have x4:=keepC hT x4;obtain ⟨z0,z1,z2,z3,z4⟩:=cellsY5 (blk_keep NE.out hT)
             go_simp
            simp only [Act.put,lpA,lpZ,lpS,lgT,lgZ,lgS]
            iterate 2
             refine RG.RunsIf.weak (v:=.bool true) (by rfl) (by rfl) (fun Z hT => ?_) ?_
             ·go_simp
             simp only [Act.put,lpA,lpZ,lpS,lgT,lgZ,lgS]
            refine RG.RunsIf.weak (v:=?_) (by rfl) (by rfl) (fun Z hT => ?_) ?_
            rotate_left
            ·go_simp
             rfl
            simp only [Act.put,lpA,lpZ,lpS,lgT,lgZ,lgS]
            refine RG.RunsIf.weak (v:=.bool false) (by rfl) (by rfl) (fun Z hT => ?_) ?_
            ·have x1:=keepC hT x1;have x2:=keepC hT x2;have x4:=keepC hT x4;obtain ⟨z0,z1,z2,z3,z4⟩:=cellsY5 (blk_keep NE.out hT)
             go_simp
            simp only [Act.put,lpA,lpZ,lpS,lgT,lgZ,lgS]
            refine RG.RunsIf.weak (v:=.bool true) (by rfl) (by rfl) (fun Z hT => ?_) ?_
            ·go_simp
            simp only [Act.put,lpA,lpZ,lpS,lgT,lgZ,lgS]
            refine RG.RunsIf.weak (v:=.bool true) (by rfl) (by rfl) (fun Z hT => ?_) ?_
            ·(go_simp) <;> rfl
            simp only [Act.put,lpA,lpZ,lpS,lgT,lgZ,lgS]
            refine RG.RunsIf.weak (v:=.bool true) (by rfl) (by rfl) (fun Z hT => ?_) ?_
            ·go_simp
            simp only [Act.put,lpA,lpZ,lpS,lgT,lgZ,lgS]
            iterate 4
             refine RG.RunsIf.weak (v:=?_) (by rfl) (by rfl) (fun Z hT => ?_) ?_
             rotate_left
             ·go_simp
              rfl
             simp only [Act.put,lpA,lpZ,lpS,lgT,lgZ,lgS]
            refine RG.RunsIf.weak (v:=.int .i64 op) (by rfl) (by rfl) (fun Z hT => ?_) ?_
            ·have x1:=keepC hT x1;have x2:=keepC hT x2;have x4:=keepC hT x4;obtain ⟨z0,z1,z2,z3,z4⟩:=cellsY5 (blk_keep NE.out hT)
             go_simp
            simp only [Act.put,lpA,lpZ,lpS,lgT,lgZ,lgS]
            refine RG.RunsIf.weak (v:=.bool true) (by rfl) (by rfl) (fun Z hT => ?_) ?_
            ·go_simp
            simp only [Act.put,lpA,lpZ,lpS,lgT,lgZ,lgS]
            refine RG.RunsIf.weak (v:=.bool true) (by rfl) (by rfl) (fun Z hT => ?_) ?_
            ·(go_simp) <;> rfl
            simp only [Act.put,lpA,lpZ,lpS,lgT,lgZ,lgS]
            refine RG.RunsIf.weak (v:=.bool true) (by rfl) (by rfl) (fun Z hT => ?_) ?_
            ·go_simp
            simp only [Act.put,lpA,lpZ,lpS,lgT,lgZ,lgS]
            iterate 4
             refine RG.RunsIf.weak (v:=?_) (by rfl) (by rfl) (fun Z hT => ?_) ?_
             rotate_left
             ·go_simp
              rfl
             simp only [Act.put,lpA,lpZ,lpS,lgT,lgZ,lgS]
            refine RG.RunsIf.weak (v:=.bool false) (by rfl) (by rfl) (fun Z hT => ?_) ?_
            ·have x1:=keepC hT x1;have x2:=keepC hT x2;have x4:=keepC hT x4;obtain ⟨z0,z1,z2,z3,z4⟩:=cellsY5 (blk_keep NE.out hT)
             go_simp
            simp only [Act.put,lpA,lpZ,lpS,lgT,lgZ,lgS]
            refine RG.RunsIf.weak (v:=.bool true) (by rfl) (by rfl) (fun Z hT => ?_) ?_
            ·go_simp
            simp only [Act.put,lpA,lpZ,lpS,lgT,lgZ,lgS]
            iterate 2
             refine RG.RunsIf.weak (v:=.bool true) (by rfl) (by rfl) (fun Z hT => ?_) ?_
             ·(go_simp) <;> rfl
             simp only [Act.put,lpA,lpZ,lpS,lgT,lgZ,lgS]
            refine RG.RunsIf.weak (v:=.bool true) (by rfl) (by rfl) (fun Z hT => ?_) ?_
            ·go_simp
            simp only [Act.put,lpA,lpZ,lpS,lgT,lgZ,lgS]
            iterate 4
             refine RG.RunsIf.weak (v:=?_) (by rfl) (by rfl) (fun Z hT => ?_) ?_
             rotate_left
             ·go_simp
              rfl
             simp only [Act.put,lpA,lpZ,lpS,lgT,lgZ,lgS]
            refine RG.RunsIf.weak (v:=.int .i64 a) (by rfl) (by rfl) (fun Z hT => ?_) ?_
            ·have x1:=keepC hT x1;have x2:=keepC hT x2;have x4:=keepC hT x4;obtain ⟨z0,z1,z2,z3,z4⟩:=cellsY5 (blk_keep NE.out hT)
             go_simp
            simp only [Act.put,lpA,lpZ,lpS,lgT,lgZ,lgS]
            refine RG.RunsIf.weak (v:=?_) (by rfl) (by rfl) (fun Z hT => ?_) ?_
            rotate_left
            ·go_simp
             rfl
            simp only [Act.put,lpA,lpZ,lpS,lgT,lgZ,lgS]
            refine RG.RunsIf.weak (v:=.int .i64 aj) (by rfl) (by rfl) (fun Z hT => ?_) ?_
            ·have x1:=keepC hT x1;have x2:=keepC hT x2;have x4:=keepC hT x4;obtain ⟨z0,z1,z2,z3,z4⟩:=cellsY5 (blk_keep NE.out hT)
             go_simp
            simp only [Act.put,lpA,lpZ,lpS,lgT,lgZ,lgS]
            refine RG.RunsIf.weak (v:=.bool false) (by rfl) (by rfl) (fun Z hT => ?_) ?_
            ·go_simp
            simp only [Act.put,lpA,lpZ,lpS,lgT,lgZ,lgS]
            refine RG.RunsIf.weak (v:=.bool false) (by rfl) (by rfl) (fun Z hT => ?_) ?_
            ·(go_simp) <;> rfl
            simp only [Act.put,lpA,lpZ,lpS,lgT,lgZ,lgS]
            exact RG.RunsIf.nil
           refine RG.wpL_done (by kernel_rfl) ?_ _
           refine NoPanic.normal ?_
           refine HK8.out _ _ ?_
           clear HK8
           have HBn : Hid (Below w.heap.size w Yz37):=HBW.out.trans (HTz37.out.mono HBW.out.size)
           have NEn:=TW.hide (blk_keep NE.out HTz37.out)
           have NSn:=TW.hide (blk_keep NS.out HTz37.out)
           have HNu : Hid (Tr.nuC l j (i + 1) = Tr.nuC l j i):=by
            show _ = _
            rw [Tr.nuC_next l j i (by have:=HJl.out;omega),if_neg (by rw [HEVi.out,HEVj.out];rintro ⟨_,h⟩;exact ha h),Nat.add_zero]
           have hnl:=Tr.nuC_le l j (i + 1) (by have:=HJl.out;omega)
           rw [HNu.out] at hnl
           generalize Tr.nuC l j i = nu at *
           go_wp2
           refine HKb.out _ _ ?_
           go_wp2
           go_roundw
           case rel => exact ⟨i + 1,_,_,HLT.out,by go_num,rfl,rfl,by rw [HNu.out],HLb.out,NEn,NSn,HBn⟩
           case measure => simp [intOf];have:=HLT.out;omega
        ·have ki6 : (op == 6) = false:=by simp [hi6]
         refine wp_seq_k fun K8 hK8 => ?_
         have HK8:=TW.hide hK8
         clear hK8
         refine wp_region_noPanic ?_
         refine RG.wp_region_L (fun Z => True) (fun Z => Below W2.heap.size W2 Z) [] (by kernel_rfl) ?_
         refine RG.wpL_any fun Yz38 hY => ?_
         have HTz38 : Hid (Below W2.heap.size W2 Yz38):=by rw [hY];exact below_drewN HXr.out 1
         clear hY
         refine RG.wpL_take (fuel:=0) (a':=?Az38) [0,1,2,3,4,5,6,7,8,9,10,11,12,13,14,15,16,17,18,19,20,21,22,23,24,25,26,27,28,29,30,31,32,33,34,35,36,37,38,39,40,41,42,43,44,45,46] (by kernel_rfl) (by kernel_rfl) (fun _ _ _ _ _ h => h) HTz38.out (fun _ => trivial) ?rz38 ?_
         case rz38 =>
          refine RG.RunsIf.weak (v:=?_) (by rfl) (by rfl) (fun Z hT => ?_) ?_
          rotate_left
          ·go_simp
           rfl
          simp only [Act.put,lpA,lpZ,lpS,lgT,lgZ,lgS]
          refine RG.RunsIf.weak (v:=.int .i64 oj) (by rfl) (by rfl) (fun Z hT => ?_) ?_
          ·have x1:=keepC hT x1;have x2:=keepC hT x2;have x4:=keepC hT x4;obtain ⟨z0,z1,z2,z3,z4⟩:=cellsY5 (blk_keep NE.out hT)
           go_simp
          simp only [Act.put,lpA,lpZ,lpS,lgT,lgZ,lgS]
          iterate 2
           refine RG.RunsIf.weak (v:=.bool false) (by rfl) (by rfl) (fun Z hT => ?_) ?_
           ·go_simp
           simp only [Act.put,lpA,lpZ,lpS,lgT,lgZ,lgS]
          iterate 6
           refine RG.RunsIf.skip (by rfl) (by rfl) ?_
           simp only [Act.put,lpA,lpZ,lpS,lgT,lgZ,lgS]
          refine RG.RunsIf.weak (v:=.bool false) (by rfl) (by rfl) (fun Z hT => ?_) ?_
          ·(go_simp) <;> rfl
          simp only [Act.put,lpA,lpZ,lpS,lgT,lgZ,lgS]
          refine RG.RunsIf.weak (v:=.bool false) (by rfl) (by rfl) (fun Z hT => ?_) ?_
          ·go_simp
          simp only [Act.put,lpA,lpZ,lpS,lgT,lgZ,lgS]
          refine RG.RunsIf.weak (v:=?_) (by rfl) (by rfl) (fun Z hT => ?_) ?_
          rotate_left
          ·go_simp
           rfl
          simp only [Act.put,lpA,lpZ,lpS,lgT,lgZ,lgS]
          refine RG.RunsIf.weak (v:=.int .i64 oj) (by rfl) (by rfl) (fun Z hT => ?_) ?_
          ·have x1:=keepC hT x1;have x2:=keepC hT x2;have x4:=keepC hT x4;obtain ⟨z0,z1,z2,z3,z4⟩:=cellsY5 (blk_keep NE.out hT)
           go_simp
          simp only [Act.put,lpA,lpZ,lpS,lgT,lgZ,lgS]
          iterate 2
           refine RG.RunsIf.weak (v:=.bool true) (by rfl) (by rfl) (fun Z hT => ?_) ?_
           ·go_simp
           simp only [Act.put,lpA,lpZ,lpS,lgT,lgZ,lgS]
          refine RG.RunsIf.weak (v:=?_) (by rfl) (by rfl) (fun Z hT => ?_) ?_
          rotate_left
          ·go_simp
           rfl
          simp only [Act.put,lpA,lpZ,lpS,lgT,lgZ,lgS]
          refine RG.RunsIf.weak (v:=.bool false) (by rfl) (by rfl) (fun Z hT => ?_) ?_
          ·have x1:=keepC hT x1;have x2:=keepC hT x2;have x4:=keepC hT x4;obtain ⟨z0,z1,z2,z3,z4⟩:=cellsY5 (blk_keep NE.out hT)
           go_simp
          simp only [Act.put,lpA,lpZ,lpS,lgT,lgZ,lgS]
          refine RG.RunsIf.weak (v:=.bool true) (by rfl) (by rfl) (fun Z hT => ?_) ?_
          ·go_simp
          simp only [Act.put,lpA,lpZ,lpS,lgT,lgZ,lgS]
          refine RG.RunsIf.weak (v:=.bool true) (by rfl) (by rfl) (fun Z hT => ?_) ?_
          ·(go_simp) <;> rfl
          simp only [Act.put,lpA,lpZ,lpS,lgT,lgZ,lgS]
          refine RG.RunsIf.weak (v:=.bool true) (by rfl) (by rfl) (fun Z hT => ?_) ?_
          ·go_simp
          simp only [Act.put,lpA,lpZ,lpS,lgT,lgZ,lgS]
          iterate 4
           refine RG.RunsIf.weak (v:=?_) (by rfl) (by rfl) (fun Z hT => ?_) ?_
           rotate_left
           ·go_simp
            rfl
           simp only [Act.put,lpA,lpZ,lpS,lgT,lgZ,lgS]
          refine RG.RunsIf.weak (v:=.int .i64 op) (by rfl) (by rfl) (fun Z hT => ?_) ?_
          ·have x1:=keepC hT x1;have x2:=keepC hT x2;have x4:=keepC hT x4;obtain ⟨z0,z1,z2,z3,z4⟩:=cellsY5 (blk_keep NE.out hT)
           go_simp
          simp only [Act.put,lpA,lpZ,lpS,lgT,lgZ,lgS]
          refine RG.RunsIf.weak (v:=.bool false) (by rfl) (by rfl) (fun Z hT => ?_) ?_
          ·go_simp
          simp only [Act.put,lpA,lpZ,lpS,lgT,lgZ,lgS]
          refine RG.RunsIf.weak (v:=.bool false) (by rfl) (by rfl) (fun Z hT => ?_) ?_
          ·(go_simp) <;> rfl
          simp only [Act.put,lpA,lpZ,lpS,lgT,lgZ,lgS]
          refine RG.RunsIf.weak (v:=.bool false) (by rfl) (by rfl) (fun Z hT => ?_) ?_
          ·go_simp
          simp only [Act.put,lpA,lpZ,lpS,lgT,lgZ,lgS]
          iterate 6
           refine RG.RunsIf.skip (by rfl) (by rfl) ?_
           simp only [Act.put,lpA,lpZ,lpS,lgT,lgZ,lgS]
          iterate 2
           refine RG.RunsIf.weak (v:=.bool false) (by rfl) (by rfl) (fun Z hT => ?_) ?_
           ·(go_simp) <;> rfl
           simp only [Act.put,lpA,lpZ,lpS,lgT,lgZ,lgS]
          refine RG.RunsIf.weak (v:=.bool false) (by rfl) (by rfl) (fun Z hT => ?_) ?_
          ·go_simp
          simp only [Act.put,lpA,lpZ,lpS,lgT,lgZ,lgS]
          iterate 8
           refine RG.RunsIf.skip (by rfl) (by rfl) ?_
           simp only [Act.put,lpA,lpZ,lpS,lgT,lgZ,lgS]
          refine RG.RunsIf.weak (v:=.bool false) (by rfl) (by rfl) (fun Z hT => ?_) ?_
          ·(go_simp) <;> rfl
          simp only [Act.put,lpA,lpZ,lpS,lgT,lgZ,lgS]
          exact RG.RunsIf.nil
         refine RG.wpL_done (by kernel_rfl) ?_ _
         refine NoPanic.normal ?_
         refine HK8.out _ _ ?_
         clear HK8
         have HBn : Hid (Below w.heap.size w Yz38):=HBW.out.trans (HTz38.out.mono HBW.out.size)
         have NEn:=TW.hide (blk_keep NE.out HTz38.out)
         have NSn:=TW.hide (blk_keep NS.out HTz38.out)
         have HNu : Hid (Tr.nuC l j (i + 1) = Tr.nuC l j i):=by
          show _ = _
          rw [Tr.nuC_next l j i (by have:=HJl.out;omega),if_neg (by rw [HEVi.out,HEVj.out];rintro ⟨h | h,_⟩;exact h5 h.1;exact hi6 h.2.2.1),Nat.add_zero]
         have hnl:=Tr.nuC_le l j (i + 1) (by have:=HJl.out;omega)
         rw [HNu.out] at hnl
         generalize Tr.nuC l j i = nu at *
         go_wp2
         refine HKb.out _ _ ?_
         go_wp2
         go_roundw
         case rel => exact ⟨i + 1,_,_,HLT.out,by go_num,rfl,rfl,by rw [HNu.out],HLb.out,NEn,NSn,HBn⟩
         case measure => simp [intOf];have:=HLT.out;omega
      ·have k6 : (oj == 6) = false:=by simp [h6]
       refine wp_seq_k fun K8 hK8 => ?_
       have HK8:=TW.hide hK8
       clear hK8
       refine wp_region_noPanic ?_
       refine RG.wp_region_L (fun Z => True) (fun Z => Below W2.heap.size W2 Z) [] (by kernel_rfl) ?_
       refine RG.wpL_any fun Yz39 hY => ?_
       have HTz39 : Hid (Below W2.heap.size W2 Yz39):=by rw [hY];exact below_drewN HXr.out 1
       clear hY
       refine RG.wpL_take (fuel:=0) (a':=?Az39) [0,1,2,3,4,5,6,7,8,9,10,11,12,13,14,15,16,17,18,19,20,21,22,23,24,25,26,27,28,29,30,31,32,33,34,35,36,37,38,39,40,41,42,43,44,45,46] (by kernel_rfl) (by kernel_rfl) (fun _ _ _ _ _ h => h) HTz39.out (fun _ => trivial) ?rz39 ?_
       case rz39 =>
        refine RG.RunsIf.weak (v:=?_) (by rfl) (by rfl) (fun Z hT => ?_) ?_
        rotate_left
        ·go_simp
         rfl
        simp only [Act.put,lpA,lpZ,lpS,lgT,lgZ,lgS]
        refine RG.RunsIf.weak (v:=.int .i64 oj) (by rfl) (by rfl) (fun Z hT => ?_) ?_
        ·have x1:=keepC hT x1;have x2:=keepC hT x2;have x4:=keepC hT x4;obtain ⟨z0,z1,z2,z3,z4⟩:=cellsY5 (blk_keep NE.out hT)
         go_simp
        simp only [Act.put,lpA,lpZ,lpS,lgT,lgZ,lgS]
        iterate 2
         refine RG.RunsIf.weak (v:=.bool false) (by rfl) (by rfl) (fun Z hT => ?_) ?_
         ·go_simp
         simp only [Act.put,lpA,lpZ,lpS,lgT,lgZ,lgS]
        iterate 6
         refine RG.RunsIf.skip (by rfl) (by rfl) ?_
         simp only [Act.put,lpA,lpZ,lpS,lgT,lgZ,lgS]
        refine RG.RunsIf.weak (v:=.bool false) (by rfl) (by rfl) (fun Z hT => ?_) ?_
        ·(go_simp) <;> rfl
        simp only [Act.put,lpA,lpZ,lpS,lgT,lgZ,lgS]
        refine RG.RunsIf.weak (v:=.bool false) (by rfl) (by rfl) (fun Z hT => ?_) ?_
        ·go_simp
        simp only [Act.put,lpA,lpZ,lpS,lgT,lgZ,lgS]
        refine RG.RunsIf.weak (v:=?_) (by rfl) (by rfl) (fun Z hT => ?_) ?_
        rotate_left
        ·go_simp
         rfl
        simp only [Act.put,lpA,lpZ,lpS,lgT,lgZ,lgS]
        refine RG.RunsIf.weak (v:=.int .i64 oj) (by rfl) (by rfl) (fun Z hT => ?_) ?_
        ·have x1:=keepC hT x1;have x2:=keepC hT x2;have x4:=keepC hT x4;obtain ⟨z0,z1,z2,z3,z4⟩:=cellsY5 (blk_keep NE.out hT)
         go_simp
        simp only [Act.put,lpA,lpZ,lpS,lgT,lgZ,lgS]
        iterate 2
         refine RG.RunsIf.weak (v:=.bool false) (by rfl) (by rfl) (fun Z hT => ?_) ?_
         ·go_simp
         simp only [Act.put,lpA,lpZ,lpS,lgT,lgZ,lgS]
        iterate 3
         refine RG.RunsIf.skip (by rfl) (by rfl) ?_
         simp only [Act.put,lpA,lpZ,lpS,lgT,lgZ,lgS]
        refine RG.RunsIf.weak (v:=.bool false) (by rfl) (by rfl) (fun Z hT => ?_) ?_
        ·(go_simp) <;> rfl
        simp only [Act.put,lpA,lpZ,lpS,lgT,lgZ,lgS]
        refine RG.RunsIf.weak (v:=.bool false) (by rfl) (by rfl) (fun Z hT => ?_) ?_
        ·go_simp
        simp only [Act.put,lpA,lpZ,lpS,lgT,lgZ,lgS]
        iterate 6
         refine RG.RunsIf.skip (by rfl) (by rfl) ?_
         simp only [Act.put,lpA,lpZ,lpS,lgT,lgZ,lgS]
        refine RG.RunsIf.weak (v:=.bool false) (by rfl) (by rfl) (fun Z hT => ?_) ?_
        ·(go_simp) <;> rfl
        simp only [Act.put,lpA,lpZ,lpS,lgT,lgZ,lgS]
        refine RG.RunsIf.weak (v:=.bool false) (by rfl) (by rfl) (fun Z hT => ?_) ?_
        ·go_simp
        simp only [Act.put,lpA,lpZ,lpS,lgT,lgZ,lgS]
        iterate 6
         refine RG.RunsIf.skip (by rfl) (by rfl) ?_
         simp only [Act.put,lpA,lpZ,lpS,lgT,lgZ,lgS]
        iterate 2
         refine RG.RunsIf.weak (v:=.bool false) (by rfl) (by rfl) (fun Z hT => ?_) ?_
         ·(go_simp) <;> rfl
         simp only [Act.put,lpA,lpZ,lpS,lgT,lgZ,lgS]
        refine RG.RunsIf.weak (v:=.bool false) (by rfl) (by rfl) (fun Z hT => ?_) ?_
        ·go_simp
        simp only [Act.put,lpA,lpZ,lpS,lgT,lgZ,lgS]
        iterate 8
         refine RG.RunsIf.skip (by rfl) (by rfl) ?_
         simp only [Act.put,lpA,lpZ,lpS,lgT,lgZ,lgS]
        refine RG.RunsIf.weak (v:=.bool false) (by rfl) (by rfl) (fun Z hT => ?_) ?_
        ·(go_simp) <;> rfl
        simp only [Act.put,lpA,lpZ,lpS,lgT,lgZ,lgS]
        exact RG.RunsIf.nil
       refine RG.wpL_done (by kernel_rfl) ?_ _
       refine NoPanic.normal ?_
       refine HK8.out _ _ ?_
       clear HK8
       have HBn : Hid (Below w.heap.size w Yz39):=HBW.out.trans (HTz39.out.mono HBW.out.size)
       have NEn:=TW.hide (blk_keep NE.out HTz39.out)
       have NSn:=TW.hide (blk_keep NS.out HTz39.out)
       have HNu : Hid (Tr.nuC l j (i + 1) = Tr.nuC l j i):=by
        show _ = _
        rw [Tr.nuC_next l j i (by have:=HJl.out;omega),if_neg (by rw [HEVi.out,HEVj.out];rintro ⟨h | h,_⟩;exact h5 h.1;exact h6 h.1),Nat.add_zero]
       have hnl:=Tr.nuC_le l j (i + 1) (by have:=HJl.out;omega)
       rw [HNu.out] at hnl
       generalize Tr.nuC l j i = nu at *
       go_wp2
       refine HKb.out _ _ ?_
       go_wp2
       go_roundw
       case rel => exact ⟨i + 1,_,_,HLT.out,by go_num,rfl,rfl,by rw [HNu.out],HLb.out,NEn,NSn,HBn⟩
       case measure => simp [intOf];have:=HLT.out;omega
    rw [ha0] at hR
    simp only [Act.put,lpA,lpZ,lpS] at hR
    rw [ha0]
    clear ha0
    have HR:=TW.hide hR
    clear hR HK hla HLa
    by_cases h14 : op = 14
    ·have k14 : (op == 14) = true:=by simp [h14]
     by_cases hv : va = (wj : Int)
     ·have kv : (va == (wj : Int)) = true:=by simp [hv]
      by_cases hw : 0 < (wj : Int)
      ·have kw : (0 : Int) < (wj : Int):=hw
       have HPf : Hid ((i : Int) = (if op = 14 ∧ va = (wj : Int) ∧ 0 < (wj : Int) then (i : Int) else bo)):=by show _ = _;rw [if_pos ⟨h14,hv,hw⟩]
       have kw2 : 0 < wj:=by omega
       clear h14 hv hw
       refine wp_seq_k fun K8 hK8 => ?_
       have HK8:=TW.hide hK8
       clear hK8
       refine wp_region_noPanic ?_
       refine RG.wp_region_L (fun Z => True) (fun Z => Below W.heap.size W Z) [] (by kernel_rfl) ?_
       refine RG.wpL_any fun Yz40 hY => ?_
       have HTz40 : Hid (Below W.heap.size W Yz40):=by rw [hY];exact below_drewN HXr.out 1
       clear hY
       refine RG.wpL_take (fuel:=0) (a':=?Az40) [0,1,2,3,4,5,6,7,8,9,10,11,12,13,14,15,16,17,18,19,20] (by kernel_rfl) (by kernel_rfl) (fun _ _ _ _ _ h => h) HTz40.out (fun _ => trivial) ?rz40 ?_
       case rz40 =>
        iterate 4
         refine RG.RunsIf.weak (v:=?_) (by rfl) (by rfl) (fun Z hT => ?_) ?_
         rotate_left
         ·go_simp
          rfl
         simp only [Act.put,lpA,lpZ,lpS,lgT,lgZ,lgS]
        refine RG.RunsIf.weak (v:=.int .i64 op) (by rfl) (by rfl) (fun Z hT => ?_) ?_
        ·have x0:=keepC hT x0;have x1:=keepC hT x1;have x3:=keepC hT x3;obtain ⟨z0,z1,z2,z3,z4⟩:=cellsY5 (blk_keep NE.out hT)
         go_simp
        simp only [Act.put,lpA,lpZ,lpS,lgT,lgZ,lgS]
        iterate 2
         refine RG.RunsIf.weak (v:=.bool true) (by rfl) (by rfl) (fun Z hT => ?_) ?_
         ·go_simp
         simp only [Act.put,lpA,lpZ,lpS,lgT,lgZ,lgS]
        iterate 4
         refine RG.RunsIf.weak (v:=?_) (by rfl) (by rfl) (fun Z hT => ?_) ?_
         rotate_left
         ·go_simp
          rfl
         simp only [Act.put,lpA,lpZ,lpS,lgT,lgZ,lgS]
        refine RG.RunsIf.weak (v:=.int .i64 va) (by rfl) (by rfl) (fun Z hT => ?_) ?_
        ·have x0:=keepC hT x0;have x1:=keepC hT x1;have x3:=keepC hT x3;obtain ⟨z0,z1,z2,z3,z4⟩:=cellsY5 (blk_keep NE.out hT)
         go_simp
        simp only [Act.put,lpA,lpZ,lpS,lgT,lgZ,lgS]
        refine RG.RunsIf.weak (v:=?_) (by rfl) (by rfl) (fun Z hT => ?_) ?_
        rotate_left
        ·go_simp
         rfl
        simp only [Act.put,lpA,lpZ,lpS,lgT,lgZ,lgS]
        refine RG.RunsIf.weak (v:=.int .i64 (wj : Int)) (by rfl) (by rfl) (fun Z hT => ?_) ?_
        ·have x0:=keepC hT x0;have x1:=keepC hT x1;have x3:=keepC hT x3;obtain ⟨z0,z1,z2,z3,z4⟩:=cellsY5 (blk_keep NE.out hT)
         go_simp
        simp only [Act.put,lpA,lpZ,lpS,lgT,lgZ,lgS]
        refine RG.RunsIf.weak (v:=.bool true) (by rfl) (by rfl) (fun Z hT => ?_) ?_
        ·go_simp
        simp only [Act.put,lpA,lpZ,lpS,lgT,lgZ,lgS]
        refine RG.RunsIf.weak (v:=.bool true) (by rfl) (by rfl) (fun Z hT => ?_) ?_
        ·(go_simp) <;> rfl
        simp only [Act.put,lpA,lpZ,lpS,lgT,lgZ,lgS]
        refine RG.RunsIf.weak (v:=.bool true) (by rfl) (by rfl) (fun Z hT => ?_) ?_
        ·go_simp
        simp only [Act.put,lpA,lpZ,lpS,lgT,lgZ,lgS]
        refine RG.RunsIf.weak (v:=?_) (by rfl) (by rfl) (fun Z hT => ?_) ?_
        rotate_left
        ·go_simp
         rfl
        simp only [Act.put,lpA,lpZ,lpS,lgT,lgZ,lgS]
        refine RG.RunsIf.weak (v:=.int .i64 (wj : Int)) (by rfl) (by rfl) (fun Z hT => ?_) ?_
        ·have x0:=keepC hT x0;have x1:=keepC hT x1;have x3:=keepC hT x3;obtain ⟨z0,z1,z2,z3,z4⟩:=cellsY5 (blk_keep NE.out hT)
         go_simp
        simp only [Act.put,lpA,lpZ,lpS,lgT,lgZ,lgS]
        refine RG.RunsIf.weak (v:=.bool true) (by rfl) (by rfl) (fun Z hT => ?_) ?_
        ·go_simp
        simp only [Act.put,lpA,lpZ,lpS,lgT,lgZ,lgS]
        refine RG.RunsIf.weak (v:=.bool true) (by rfl) (by rfl) (fun Z hT => ?_) ?_
        ·(go_simp) <;> rfl
        simp only [Act.put,lpA,lpZ,lpS,lgT,lgZ,lgS]
        exact RG.RunsIf.nil
       refine RG.wpL_done (by kernel_rfl) ?_ _
       refine NoPanic.normal ?_
       refine HK8.out _ _ ?_
       clear HK8
       go_wp2
       exact HR.out Yz40 _ _ _ _ _ _ _ _ _ _ _ _ _ _ _ _ _ _ _ _ _ _ (i : Int) HTz40.out HPf.out
      ·have kw : (wj : Int) ≤ 0:=by omega
       have HPf : Hid (bo = (if op = 14 ∧ va = (wj : Int) ∧ 0 < (wj : Int) then (i : Int) else bo)):=by show _ = _;rw [if_neg (fun h => hw h.2.2)]
       have kw2 : (wj = 0) = True:=by simp;omega
       clear h14 hv hw
       refine wp_seq_k fun K8 hK8 => ?_
       have HK8:=TW.hide hK8
       clear hK8
       refine wp_region_noPanic ?_
       refine RG.wp_region_L (fun Z => True) (fun Z => Below W.heap.size W Z) [] (by kernel_rfl) ?_
       refine RG.wpL_any fun Yz41 hY => ?_
       have HTz41 : Hid (Below W.heap.size W Yz41):=by rw [hY];exact below_drewN HXr.out 1
       clear hY
       refine RG.wpL_take (fuel:=0) (a':=?Az41) [0,1,2,3,4,5,6,7,8,9,10,11,12,13,14,15,16,17,18,19,20] (by kernel_rfl) (by kernel_rfl) (fun _ _ _ _ _ h => h) HTz41.out (fun _ => trivial) ?rz41 ?_
       case rz41 =>
        iterate 4
         refine RG.RunsIf.weak (v:=?_) (by rfl) (by rfl) (fun Z hT => ?_) ?_
         rotate_left
         ·go_simp
          rfl
         simp only [Act.put,lpA,lpZ,lpS,lgT,lgZ,lgS]
        refine RG.RunsIf.weak (v:=.int .i64 op) (by rfl) (by rfl) (fun Z hT => ?_) ?_
        ·have x0:=keepC hT x0;have x1:=keepC hT x1;have x3:=keepC hT x3;obtain ⟨z0,z1,z2,z3,z4⟩:=cellsY5 (blk_keep NE.out hT)
         go_simp
        simp only [Act.put,lpA,lpZ,lpS,lgT,lgZ,lgS]
        iterate 2
         refine RG.RunsIf.weak (v:=.bool true) (by rfl) (by rfl) (fun Z hT => ?_) ?_
         ·go_simp
         simp only [Act.put,lpA,lpZ,lpS,lgT,lgZ,lgS]
        iterate 4
         refine RG.RunsIf.weak (v:=?_) (by rfl) (by rfl) (fun Z hT => ?_) ?_
         rotate_left
         ·go_simp
          rfl
         simp only [Act.put,lpA,lpZ,lpS,lgT,lgZ,lgS]
        refine RG.RunsIf.weak (v:=.int .i64 va) (by rfl) (by rfl) (fun Z hT => ?_) ?_
        ·have x0:=keepC hT x0;have x1:=keepC hT x1;have x3:=keepC hT x3;obtain ⟨z0,z1,z2,z3,z4⟩:=cellsY5 (blk_keep NE.out hT)
         go_simp
        simp only [Act.put,lpA,lpZ,lpS,lgT,lgZ,lgS]
        refine RG.RunsIf.weak (v:=?_) (by rfl) (by rfl) (fun Z hT => ?_) ?_
        rotate_left
        ·go_simp
         rfl
        simp only [Act.put,lpA,lpZ,lpS,lgT,lgZ,lgS]
        refine RG.RunsIf.weak (v:=.int .i64 (wj : Int)) (by rfl) (by rfl) (fun Z hT => ?_) ?_
        ·have x0:=keepC hT x0;have x1:=keepC hT x1;have x3:=keepC hT x3;obtain ⟨z0,z1,z2,z3,z4⟩:=cellsY5 (blk_keep NE.out hT)
         go_simp
        simp only [Act.put,lpA,lpZ,lpS,lgT,lgZ,lgS]
        refine RG.RunsIf.weak (v:=.bool true) (by rfl) (by rfl) (fun Z hT => ?_) ?_
        ·go_simp
        simp only [Act.put,lpA,lpZ,lpS,lgT,lgZ,lgS]
        refine RG.RunsIf.weak (v:=.bool true) (by rfl) (by rfl) (fun Z hT => ?_) ?_
        ·(go_simp) <;> rfl
        simp only [Act.put,lpA,lpZ,lpS,lgT,lgZ,lgS]
        refine RG.RunsIf.weak (v:=.bool true) (by rfl) (by rfl) (fun Z hT => ?_) ?_
        ·go_simp
        simp only [Act.put,lpA,lpZ,lpS,lgT,lgZ,lgS]
        refine RG.RunsIf.weak (v:=?_) (by rfl) (by rfl) (fun Z hT => ?_) ?_
        rotate_left
        ·go_simp
         rfl
        simp only [Act.put,lpA,lpZ,lpS,lgT,lgZ,lgS]
        refine RG.RunsIf.weak (v:=.int .i64 (wj : Int)) (by rfl) (by rfl) (fun Z hT => ?_) ?_
        ·have x0:=keepC hT x0;have x1:=keepC hT x1;have x3:=keepC hT x3;obtain ⟨z0,z1,z2,z3,z4⟩:=cellsY5 (blk_keep NE.out hT)
         go_simp
        simp only [Act.put,lpA,lpZ,lpS,lgT,lgZ,lgS]
        refine RG.RunsIf.weak (v:=.bool false) (by rfl) (by rfl) (fun Z hT => ?_) ?_
        ·go_simp
        simp only [Act.put,lpA,lpZ,lpS,lgT,lgZ,lgS]
        refine RG.RunsIf.weak (v:=.bool false) (by rfl) (by rfl) (fun Z hT => ?_) ?_
        ·(go_simp) <;> rfl
        simp only [Act.put,lpA,lpZ,lpS,lgT,lgZ,lgS]
        exact RG.RunsIf.nil
       refine RG.wpL_done (by kernel_rfl) ?_ _
       refine NoPanic.normal ?_
       refine HK8.out _ _ ?_
       clear HK8
       go_wp2
       exact HR.out Yz41 _ _ _ _ _ _ _ _ _ _ _ _ _ _ _ _ _ _ _ _ _ _ bo HTz41.out HPf.out
     ·have kv : (va == (wj : Int)) = false:=by simp [hv]
      have HPf : Hid (bo = (if op = 14 ∧ va = (wj : Int) ∧ 0 < (wj : Int) then (i : Int) else bo)):=by show _ = _;rw [if_neg (fun h => hv h.2.1)]
      clear h14 hv
      refine wp_seq_k fun K8 hK8 => ?_
      have HK8:=TW.hide hK8
      clear hK8
      refine wp_region_noPanic ?_
      refine RG.wp_region_L (fun Z => True) (fun Z => Below W.heap.size W Z) [] (by kernel_rfl) ?_
      refine RG.wpL_any fun Yz42 hY => ?_
      have HTz42 : Hid (Below W.heap.size W Yz42):=by rw [hY];exact below_drewN HXr.out 1
      clear hY
      refine RG.wpL_take (fuel:=0) (a':=?Az42) [0,1,2,3,4,5,6,7,8,9,10,11,12,13,14,15,16,17,18,19,20] (by kernel_rfl) (by kernel_rfl) (fun _ _ _ _ _ h => h) HTz42.out (fun _ => trivial) ?rz42 ?_
      case rz42 =>
       iterate 4
        refine RG.RunsIf.weak (v:=?_) (by rfl) (by rfl) (fun Z hT => ?_) ?_
        rotate_left
        ·go_simp
         rfl
        simp only [Act.put,lpA,lpZ,lpS,lgT,lgZ,lgS]
       refine RG.RunsIf.weak (v:=.int .i64 op) (by rfl) (by rfl) (fun Z hT => ?_) ?_
       ·have x0:=keepC hT x0;have x1:=keepC hT x1;have x3:=keepC hT x3;obtain ⟨z0,z1,z2,z3,z4⟩:=cellsY5 (blk_keep NE.out hT)
        go_simp
       simp only [Act.put,lpA,lpZ,lpS,lgT,lgZ,lgS]
       iterate 2
        refine RG.RunsIf.weak (v:=.bool true) (by rfl) (by rfl) (fun Z hT => ?_) ?_
        ·go_simp
        simp only [Act.put,lpA,lpZ,lpS,lgT,lgZ,lgS]
       iterate 4
        refine RG.RunsIf.weak (v:=?_) (by rfl) (by rfl) (fun Z hT => ?_) ?_
        rotate_left
        ·go_simp
         rfl
        simp only [Act.put,lpA,lpZ,lpS,lgT,lgZ,lgS]
       refine RG.RunsIf.weak (v:=.int .i64 va) (by rfl) (by rfl) (fun Z hT => ?_) ?_
       ·have x0:=keepC hT x0;have x1:=keepC hT x1;have x3:=keepC hT x3;obtain ⟨z0,z1,z2,z3,z4⟩:=cellsY5 (blk_keep NE.out hT)
        go_simp
       simp only [Act.put,lpA,lpZ,lpS,lgT,lgZ,lgS]
       refine RG.RunsIf.weak (v:=?_) (by rfl) (by rfl) (fun Z hT => ?_) ?_
       rotate_left
       ·go_simp
        rfl
       simp only [Act.put,lpA,lpZ,lpS,lgT,lgZ,lgS]
       refine RG.RunsIf.weak (v:=.int .i64 (wj : Int)) (by rfl) (by rfl) (fun Z hT => ?_) ?_
       ·have x0:=keepC hT x0;have x1:=keepC hT x1;have x3:=keepC hT x3;obtain ⟨z0,z1,z2,z3,z4⟩:=cellsY5 (blk_keep NE.out hT)
        go_simp
       simp only [Act.put,lpA,lpZ,lpS,lgT,lgZ,lgS]
       refine RG.RunsIf.weak (v:=.bool false) (by rfl) (by rfl) (fun Z hT => ?_) ?_
       ·go_simp
       simp only [Act.put,lpA,lpZ,lpS,lgT,lgZ,lgS]
       refine RG.RunsIf.weak (v:=.bool false) (by rfl) (by rfl) (fun Z hT => ?_) ?_
       ·(go_simp) <;> rfl
       simp only [Act.put,lpA,lpZ,lpS,lgT,lgZ,lgS]
       refine RG.RunsIf.weak (v:=.bool false) (by rfl) (by rfl) (fun Z hT => ?_) ?_
       ·go_simp
       simp only [Act.put,lpA,lpZ,lpS,lgT,lgZ,lgS]
       iterate 3
        refine RG.RunsIf.skip (by rfl) (by rfl) ?_
        simp only [Act.put,lpA,lpZ,lpS,lgT,lgZ,lgS]
       refine RG.RunsIf.weak (v:=.bool false) (by rfl) (by rfl) (fun Z hT => ?_) ?_
       ·(go_simp) <;> rfl
       simp only [Act.put,lpA,lpZ,lpS,lgT,lgZ,lgS]
       exact RG.RunsIf.nil
      refine RG.wpL_done (by kernel_rfl) ?_ _
      refine NoPanic.normal ?_
      refine HK8.out _ _ ?_
      clear HK8
      go_wp2
      exact HR.out Yz42 _ _ _ _ _ _ _ _ _ _ _ _ _ _ _ _ _ _ _ _ _ _ bo HTz42.out HPf.out
    ·have k14 : (op == 14) = false:=by simp [h14]
     have HPf : Hid (bo = (if op = 14 ∧ va = (wj : Int) ∧ 0 < (wj : Int) then (i : Int) else bo)):=by show _ = _;rw [if_neg (fun h => h14 h.1)]
     clear h14
     refine wp_seq_k fun K8 hK8 => ?_
     have HK8:=TW.hide hK8
     clear hK8
     refine wp_region_noPanic ?_
     refine RG.wp_region_L (fun Z => True) (fun Z => Below W.heap.size W Z) [] (by kernel_rfl) ?_
     refine RG.wpL_any fun Yz43 hY => ?_
     have HTz43 : Hid (Below W.heap.size W Yz43):=by rw [hY];exact below_drewN HXr.out 1
     clear hY
     refine RG.wpL_take (fuel:=0) (a':=?Az43) [0,1,2,3,4,5,6,7,8,9,10,11,12,13,14,15,16,17,18,19,20] (by kernel_rfl) (by kernel_rfl) (fun _ _ _ _ _ h => h) HTz43.out (fun _ => trivial) ?rz43 ?_
     case rz43 =>
      iterate 4
       refine RG.RunsIf.weak (v:=?_) (by rfl) (by rfl) (fun Z hT => ?_) ?_
       rotate_left
       ·go_simp
        rfl
       simp only [Act.put,lpA,lpZ,lpS,lgT,lgZ,lgS]
      refine RG.RunsIf.weak (v:=.int .i64 op) (by rfl) (by rfl) (fun Z hT => ?_) ?_
      ·have x0:=keepC hT x0;have x1:=keepC hT x1;have x3:=keepC hT x3;obtain ⟨z0,z1,z2,z3,z4⟩:=cellsY5 (blk_keep NE.out hT)
       go_simp
      simp only [Act.put,lpA,lpZ,lpS,lgT,lgZ,lgS]
      iterate 2
       refine RG.RunsIf.weak (v:=.bool false) (by rfl) (by rfl) (fun Z hT => ?_) ?_
       ·go_simp
       simp only [Act.put,lpA,lpZ,lpS,lgT,lgZ,lgS]
      iterate 8
       refine RG.RunsIf.skip (by rfl) (by rfl) ?_
       simp only [Act.put,lpA,lpZ,lpS,lgT,lgZ,lgS]
      refine RG.RunsIf.weak (v:=.bool false) (by rfl) (by rfl) (fun Z hT => ?_) ?_
      ·(go_simp) <;> rfl
      simp only [Act.put,lpA,lpZ,lpS,lgT,lgZ,lgS]
      refine RG.RunsIf.weak (v:=.bool false) (by rfl) (by rfl) (fun Z hT => ?_) ?_
      ·go_simp
      simp only [Act.put,lpA,lpZ,lpS,lgT,lgZ,lgS]
      iterate 3
       refine RG.RunsIf.skip (by rfl) (by rfl) ?_
       simp only [Act.put,lpA,lpZ,lpS,lgT,lgZ,lgS]
      refine RG.RunsIf.weak (v:=.bool false) (by rfl) (by rfl) (fun Z hT => ?_) ?_
      ·(go_simp) <;> rfl
      simp only [Act.put,lpA,lpZ,lpS,lgT,lgZ,lgS]
      exact RG.RunsIf.nil
     refine RG.wpL_done (by kernel_rfl) ?_ _
     refine NoPanic.normal ?_
     refine HK8.out _ _ ?_
     clear HK8
     go_wp2
     exact HR.out Yz43 _ _ _ _ _ _ _ _ _ _ _ _ _ _ _ _ _ _ _ _ _ _ bo HTz43.out HPf.out
   rw [ha0] at hR
   simp only [Act.put,lpA,lpZ,lpS] at hR
   rw [ha0]
   clear ha0
   have HR:=TW.hide hR
   clear hR HK HLa
   obtain ⟨z0,z1,z2,z3,z4⟩:=cellsY5 NE.out
   by_cases hw : who = (wj : Int)
   ·have kw : (who == (wj : Int)) = true:=by simp [hw]
    have hpf : (i : Int) = (if who = (wj : Int) then (i : Int) else la):=by rw [if_pos hw]
    have HPf:=TW.hide hpf
    clear hw hpf
    go_wp2
    go_quiet (fail)
    go_wp2
    exact HR.out _ _ _ _ _ _ _ _ _ _ (i : Int) (below_drewN (Below.refl _ _) _) HPf.out
   ·have kw : (who == (wj : Int)) = false:=by simp [hw]
    have hpf : la = (if who = (wj : Int) then (i : Int) else la):=by rw [if_neg hw]
    have HPf:=TW.hide hpf
    clear hw hpf
    go_wp2
    go_quiet (fail)
    go_wp2
    exact HR.out _ _ _ _ _ _ _ _ _ _ la (below_drewN (Below.refl _ _) _) HPf.out
  ·obtain rfl : i = j:=by omega
   have kk : ¬ (i : Int) < (i : Int):=by omega
   have h1:=Tr.nuC_le l i i (by have:=HJl.out;omega)
   obtain ⟨nu,hnu⟩ : ∃ n,Tr.nuC l i i = n:=⟨_,rfl⟩
   rw [hnu] at h1 ⊢
   have HNj:=TW.hide hnu
   clear hnu hlt
   go_wp2
   refine HK.out _ _ ?_
   clear HK
   refine wp_seq_k fun K hK => ?_
   have HK:=TW.hide hK
   clear hK
   refine wp_act9 fun a0 ha0 => ?_
   have hR : ∀ (W : World) (u107 u108 u109 u110 u111 u112 u113 u114 u115 u116 u117 u118 : Value) (v : Value) (O : List Int),Below wr.heap.size wr W → W.ownsRow wr.heap.size 3 1 v O.length (O.map (Value.int .i64)) → (∀ x,x ∈ O ↔ ∃ k : Nat,x = (k : Int) ∧ (Tr.E1 l k i ∨ Tr.E2 l k i)) → O.length ≤ 1 → K (((((((((((((a0.put (some 107) u107).put (some 108) u108).put (some 109) u109).put (some 110) u110).put (some 111) u111).put (some 112) u112).put (some 113) u113).put (some 114) u114).put (some 115) u115).put (some 116) u116).put (some 117) u117).put (some 118) u118).put (some 8) v) W:=by
    intro W u107 u108 u109 u110 u111 u112 u113 u114 u115 u116 u117 u118 v O hW hO hMe hOl
    rw [ha0]
    clear ha0
    simp only [Act.put,lpA,lpZ,lpS]
    refine HK.out _ _ ?_
    clear HK
    obtain ⟨wo,rfl⟩ : ∃ x,x = wr:=⟨_,rfl⟩
    have hNE:=TW.hide (blk_keep NE.out hW)
    obtain ⟨z0,z1,z2,z3,z4⟩:=cellsY5 hNE.out
    obtain ⟨oa,oc,rfl,hNR⟩:=nr_own9 hO
    refine wp_seq_k fun K hK => ?_
    have HK:=TW.hide hK
    clear hK
    refine wp_block ?_
    by_cases h6 : oj = 6
    ·have k6 : (oj == 6) = true:=by simp [h6]
     cases sj with
     | true =>
      replace h6:=TW.hide h6
      refine wp_seq_k fun K1 hK1 => ?_
      have HK1:=TW.hide hK1
      clear hK1
      go_wp2
      refine HK1.out _ _ ?_
      clear HK1
      refine wp_cond_true (by rfl) ?_
      have HOl:=TW.hide hOl
      have HO0:=TW.hide hO
      have HM0:=TW.hide hMe
      have HW0:=TW.hide hW
      clear hO hMe hW hNR h1
      generalize hON : O.length = ON at *
      have HON0:=TW.hide hON
      clear hON
      go_wp2
      go_loopw [8,13] (fun ov iv wr => ∃ (i2 : Nat),i2 ≤ i ∧ iv = .int .i64 (i2 : Int) ∧ ov = .slice oa ON oc ∧ Hid (∀ k,k < i2 → ¬ ((Tr.ev l k).op = 7 ∧ (Tr.ev l k).a = aj)) ∧ Hid (wr.ownsRow wo.heap.size 3 1 (.slice oa ON oc) ON (O.map (Value.int .i64))) ∧ Hid (wr.heap[ge]? = some (.cells #[.int .i64 (wj : Int),.int .i64 oj,.int .i64 aj,.int .i64 vj,.bool true] 65 (0,0))) ∧ Hid (Below wo.heap.size wo wr)) (fun ov iv wr => i - (intOf iv).toNat)
      case atStart => exact ⟨0,Nat.zero_le _,rfl,rfl,TW.hide (fun k hk => by omega),HO0,hNE,HW0⟩
      case round =>
       obtain ⟨i2,hi2,rfl,rfl,HNf,HOq,NEq,HBq⟩:=hrel
       have hi40 : i ≤ 40000:=by have:=HJl.out;have:=HLn.out;omega
       have hOl2 : ON ≤ 1:=HOl.out
       clear HO0 HW0 hNE
       by_cases hlt2 : i2 < i
       ·obtain ⟨b2,o2,who2,op2,a2,va2,sh2,hla4,hev2,_,_,_,_,x0,x1,x2,x3,x4⟩:=(HEw.out.below (HBW.out.trans (HBq.out.mono HBW.out.size))).get i2 (by have:=HJl.out;omega)
        injection hla4 with hla4
        injection hla4 with hla5 hla6
        subst hla5 hla6
        have HEV2:=TW.hide hev2
        have qk1 : (i2 : Int) < (i : Int):=by omega
        have qk2 : (i2 : Int) < (l.length : Int):=by have:=HJl.out;omega
        have qk0 : (0 : Int) ≤ (i2 : Int):=by omega
        have qk4 : i2 + 1 ≤ 40000:=by have:=HJl.out;have:=HLn.out;omega
        have HLT:=TW.hide hlt2
        have HXq : Hid (Below wr.heap.size wr wr):=Below.refl _ _
        clear hev2 hlt2 x0 x3 x4
        refine wp_seq_k fun K1 hK1 => ?_
        have HK1:=TW.hide hK1
        clear hK1
        go_wp2
        refine HK1.out _ _ ?_
        clear HK1
        refine wp_seq_k fun Kb hKb => ?_
        have HKb:=TW.hide hKb
        clear hKb
        refine wp_block ?_
        by_cases ho2 : op2 = 7
        ·have ko2 : (op2 == 7) = true:=by simp [ho2]
         by_cases ha2 : a2 = aj
         ·have ka2 : (a2 == aj) = true:=by simp [ha2]
          have HYE : Hid ((Tr.ev l i2).op = 7 ∧ (Tr.ev l i2).a = aj):=by show _ ∧ _;rw [HEV2.out];exact ⟨ho2,ha2⟩
          clear ho2 ha2
          refine wp_seq_k fun K8 hK8 => ?_
          have HK8:=TW.hide hK8
          clear hK8
          refine wp_region_noPanic ?_
          refine RG.wp_region_L (fun Z => True) (fun Z => Below wr.heap.size wr Z) [] (by kernel_rfl) ?_
          refine RG.wpL_any fun Yz53 hY => ?_
          have HTz53 : Hid (Below wr.heap.size wr Yz53):=by rw [hY];exact below_drewN HXq.out 1
          clear hY
          refine RG.wpL_take (fuel:=0) (a':=?Az53) [0,1,2,3,4,5,6,7,8,9,10,11,12,13,14,15] (by kernel_rfl) (by kernel_rfl) (fun _ _ _ _ _ h => h) HTz53.out (fun _ => trivial) ?rz53 ?_
          case rz53 =>
           iterate 4
            refine RG.RunsIf.weak (v:=?_) (by rfl) (by rfl) (fun Z hT => ?_) ?_
            rotate_left
            ·go_simp
             rfl
            simp only [Act.put,lpA,lpZ,lpS,lgT,lgZ,lgS]
           refine RG.RunsIf.weak (v:=.int .i64 op2) (by rfl) (by rfl) (fun Z hT => ?_) ?_
           ·have x1:=keepC hT x1;have x2:=keepC hT x2;obtain ⟨z0,z1,z2,z3,z4⟩:=cellsY5 (blk_keep NEq.out hT)
            go_simp
           simp only [Act.put,lpA,lpZ,lpS,lgT,lgZ,lgS]
           iterate 2
            refine RG.RunsIf.weak (v:=.bool true) (by rfl) (by rfl) (fun Z hT => ?_) ?_
            ·go_simp
            simp only [Act.put,lpA,lpZ,lpS,lgT,lgZ,lgS]
           iterate 4
            refine RG.RunsIf.weak (v:=?_) (by rfl) (by rfl) (fun Z hT => ?_) ?_
            rotate_left
            ·go_simp
             rfl
            simp only [Act.put,lpA,lpZ,lpS,lgT,lgZ,lgS]
           refine RG.RunsIf.weak (v:=.int .i64 a2) (by rfl) (by rfl) (fun Z hT => ?_) ?_
           ·have x1:=keepC hT x1;have x2:=keepC hT x2;obtain ⟨z0,z1,z2,z3,z4⟩:=cellsY5 (blk_keep NEq.out hT)
            go_simp
           simp only [Act.put,lpA,lpZ,lpS,lgT,lgZ,lgS]
           refine RG.RunsIf.weak (v:=?_) (by rfl) (by rfl) (fun Z hT => ?_) ?_
           rotate_left
           ·go_simp
            rfl
           simp only [Act.put,lpA,lpZ,lpS,lgT,lgZ,lgS]
           refine RG.RunsIf.weak (v:=.int .i64 aj) (by rfl) (by rfl) (fun Z hT => ?_) ?_
           ·have x1:=keepC hT x1;have x2:=keepC hT x2;obtain ⟨z0,z1,z2,z3,z4⟩:=cellsY5 (blk_keep NEq.out hT)
            go_simp
           simp only [Act.put,lpA,lpZ,lpS,lgT,lgZ,lgS]
           refine RG.RunsIf.weak (v:=.bool true) (by rfl) (by rfl) (fun Z hT => ?_) ?_
           ·go_simp
           simp only [Act.put,lpA,lpZ,lpS,lgT,lgZ,lgS]
           refine RG.RunsIf.weak (v:=.bool true) (by rfl) (by rfl) (fun Z hT => ?_) ?_
           ·(go_simp) <;> rfl
           simp only [Act.put,lpA,lpZ,lpS,lgT,lgZ,lgS]
           exact RG.RunsIf.nil
          refine RG.wpL_done (by kernel_rfl) ?_ _
          refine NoPanic.normal ?_
          refine HK8.out _ _ ?_
          clear HK8
          have NEn:=TW.hide (blk_keep NEq.out HTz53.out)
          have HBn : Hid (Below wo.heap.size wo Yz53):=HBq.out.trans (HTz53.out.mono HBq.out.size)
          have HOn:=TW.hide (own_belowI HOq.out HTz53.out)
          go_wp2_with (at_builtin;refine wpList_append_own _ rfl _ _ 23 rfl wo.heap.size 3 i3 (.int .i64 0) 1 8 Try.underlying23 hi3 hz30 hz31 hz32 rfl (by decide) _ ON (O.map (Value.int .i64)) rfl (HOn.out.alloc _) ⟨Yz53.heap.size,0,none⟩ 1 1 [.int .i64 (i2 : Int)] rfl rfl (cell_one_new _ _ _) (by simp [Value.oneCell']) (by unfold maxLen;omega) (by omega) (by have:=HBn.out.size;simp;omega) ?_;(intro v5 w5 hown' hgrow _);have HG5:=TW.hide hgrow;obtain ⟨a5,c5,rfl⟩:=own_openE hown';have HO5:=TW.hide hown';clear hown' hgrow)
          have HB5 : Hid (Below wo.heap.size wo w5):=(HBn.out.alloc HBn.out.size _).grown HG5.out (by have:=HBn.out.size;simp;omega) (fun q hq => own_blkI HOn.out q hq)
          have hO6 : w5.ownsRow wo.heap.size 3 1 (.slice a5 (ON + 1) c5) (ON + 1) ((O ++ [(i2 : Int)]).map (Value.int .i64)):=by
           rw [List.map_append]
           exact HO5.out
          have NE5 : Hid (w5.heap[ge]? = some (.cells #[.int .i64 (wj : Int),.int .i64 oj,.int .i64 aj,.int .i64 vj,.bool true] 65 (0,0))):=TW.hide (by rw [HG5.out.block ge (by have:=blk_lt NEn.out;simp;omega) (fun e => absurd (own_blkI HOn.out ge e.symm) (by have:=blk_lt NE.out;omega))];exact blk_alloc NEn.out)
          clear HG5 HO5 HOn HBn NEn
          obtain ⟨O3,hO3⟩ : ∃ o,o = O ++ [(i2 : Int)]:=⟨_,rfl⟩
          have HL3 : Hid (O3.length = ON + 1):=by show _ = _;rw [hO3,List.length_append,HON0.out];rfl
          rw [← hO3] at hO6
          have HO6:=TW.hide hO6
          have HE3:=TW.hide hO3
          clear hO6 hO3
          have HEn:=TW.hide (Tr.in_e5 HJl.out (by rw [HEVj.out];exact h6.out) (by rw [HEVj.out]) HLT.out (by rw [HEVj.out];exact HYE.out) (by rw [HEVj.out];exact HNf.out))
          have hNR5 : NR w5 a5 O3:=by
           have h9:=HO6.out
           rw [← HL3.out] at h9
           obtain ⟨a_,c_,e_,hr_⟩:=nr_own9 h9
           injection e_ with e1_ _ e3_
           subst e1_ e3_
           exact hr_
          have HNRq:=TW.hide hNR5
          clear hNR5
          refine HK.out _ _ ?_
          clear HK
          rw [← HL3.out]
          go_wp2_with fail
          refine (rrising a5 c5 O3 w5 HNRq.out (by have:=HL3.out;have:=HOl.out;omega)).mono ?_
          rintro e1 W1 ⟨⟨v1,out,rfl,h1,h2,h3,h4⟩,hb⟩
          have HR:=TW.hide (HPo.out W1 v1 out (own_low9 h1 ((HBW.out.trans (HB5.out.mono HBW.out.size))).size) h2 (fun x => by
           rw [h3 x]
           rw [HE3.out]
           exact Tr.in_one HM0.out (fun k => Tr.eg_6s (by rw [HEVj.out];exact h6.out) (by rw [HEVj.out])) HEn.out x) (by have:=HL3.out;have:=HOl.out;omega) (((HBW.out.trans (HB5.out.mono HBW.out.size))).trans (hb.mono ((HBW.out.trans (HB5.out.mono HBW.out.size))).size)))
          clear HPo h1 h2 h3 h4 hb
          go_wp2
          first | exact HR.out | exact ⟨rfl,HR.out⟩
         ·have ka2 : (a2 == aj) = false:=by simp [ha2]
          have HNO : Hid (¬ ((Tr.ev l i2).op = 7 ∧ (Tr.ev l i2).a = aj)):=by show ¬ _;rw [HEV2.out];exact fun h => ha2 h.2
          clear ho2 ha2
          refine wp_seq_k fun K8 hK8 => ?_
          have HK8:=TW.hide hK8
          clear hK8
          refine wp_region_noPanic ?_
          refine RG.wp_region_L (fun Z => True) (fun Z => Below wr.heap.size wr Z) [] (by kernel_rfl) ?_
          refine RG.wpL_any fun Yz54 hY => ?_
          have HTz54 : Hid (Below wr.heap.size wr Yz54):=by rw [hY];exact below_drewN HXq.out 1
          clear hY
          refine RG.wpL_take (fuel:=0) (a':=?Az54) [0,1,2,3,4,5,6,7,8,9,10,11,12,13,14,15] (by kernel_rfl) (by kernel_rfl) (fun _ _ _ _ _ h => h) HTz54.out (fun _ => trivial) ?rz54 ?_
          case rz54 =>
           iterate 4
            refine RG.RunsIf.weak (v:=?_) (by rfl) (by rfl) (fun Z hT => ?_) ?_
            rotate_left
            ·go_simp
             rfl
            simp only [Act.put,lpA,lpZ,lpS,lgT,lgZ,lgS]
           refine RG.RunsIf.weak (v:=.int .i64 op2) (by rfl) (by rfl) (fun Z hT => ?_) ?_
           ·have x1:=keepC hT x1;have x2:=keepC hT x2;obtain ⟨z0,z1,z2,z3,z4⟩:=cellsY5 (blk_keep NEq.out hT)
            go_simp
           simp only [Act.put,lpA,lpZ,lpS,lgT,lgZ,lgS]
           iterate 2
            refine RG.RunsIf.weak (v:=.bool true) (by rfl) (by rfl) (fun Z hT => ?_) ?_
            ·go_simp
            simp only [Act.put,lpA,lpZ,lpS,lgT,lgZ,lgS]
           iterate 4
            refine RG.RunsIf.weak (v:=?_) (by rfl) (by rfl) (fun Z hT => ?_) ?_
            rotate_left
            ·go_simp
             rfl
            simp only [Act.put,lpA,lpZ,lpS,lgT,lgZ,lgS]
           refine RG.RunsIf.weak (v:=.int .i64 a2) (by rfl) (by rfl) (fun Z hT => ?_) ?_
           ·have x1:=keepC hT x1;have x2:=keepC hT x2;obtain ⟨z0,z1,z2,z3,z4⟩:=cellsY5 (blk_keep NEq.out hT)
            go_simp
           simp only [Act.put,lpA,lpZ,lpS,lgT,lgZ,lgS]
           refine RG.RunsIf.weak (v:=?_) (by rfl) (by rfl) (fun Z hT => ?_) ?_
           rotate_left
           ·go_simp
            rfl
           simp only [Act.put,lpA,lpZ,lpS,lgT,lgZ,lgS]
           refine RG.RunsIf.weak (v:=.int .i64 aj) (by rfl) (by rfl) (fun Z hT => ?_) ?_
           ·have x1:=keepC hT x1;have x2:=keepC hT x2;obtain ⟨z0,z1,z2,z3,z4⟩:=cellsY5 (blk_keep NEq.out hT)
            go_simp
           simp only [Act.put,lpA,lpZ,lpS,lgT,lgZ,lgS]
           refine RG.RunsIf.weak (v:=.bool false) (by rfl) (by rfl) (fun Z hT => ?_) ?_
           ·go_simp
           simp only [Act.put,lpA,lpZ,lpS,lgT,lgZ,lgS]
           refine RG.RunsIf.weak (v:=.bool false) (by rfl) (by rfl) (fun Z hT => ?_) ?_
           ·(go_simp) <;> rfl
           simp only [Act.put,lpA,lpZ,lpS,lgT,lgZ,lgS]
           exact RG.RunsIf.nil
          refine RG.wpL_done (by kernel_rfl) ?_ _
          refine NoPanic.normal ?_
          refine HK8.out _ _ ?_
          clear HK8
          have NEn:=TW.hide (blk_keep NEq.out HTz54.out)
          have HBn : Hid (Below wo.heap.size wo Yz54):=HBq.out.trans (HTz54.out.mono HBq.out.size)
          have HOn:=TW.hide (own_belowI HOq.out HTz54.out)
          have HN3 : Hid (∀ k,k < i2 + 1 → ¬ ((Tr.ev l k).op = 7 ∧ (Tr.ev l k).a = aj)):=fun k hk => by
           by_cases e : k = i2
           ·rw [e];exact HNO.out
           ·exact HNf.out k (by omega)
          go_wp2
          refine HKb.out _ _ ?_
          go_wp2
          go_roundw
          case rel => exact ⟨i2 + 1,HLT.out,by go_num,rfl,HN3,HOn,NEn,HBn⟩
          case measure => simp [intOf];have:=HLT.out;omega
        ·have ko2 : (op2 == 7) = false:=by simp [ho2]
         have HNO : Hid (¬ ((Tr.ev l i2).op = 7 ∧ (Tr.ev l i2).a = aj)):=by show ¬ _;rw [HEV2.out];exact fun h => ho2 h.1
         clear ho2
         refine wp_seq_k fun K8 hK8 => ?_
         have HK8:=TW.hide hK8
         clear hK8
         refine wp_region_noPanic ?_
         refine RG.wp_region_L (fun Z => True) (fun Z => Below wr.heap.size wr Z) [] (by kernel_rfl) ?_
         refine RG.wpL_any fun Yz55 hY => ?_
         have HTz55 : Hid (Below wr.heap.size wr Yz55):=by rw [hY];exact below_drewN HXq.out 1
         clear hY
         refine RG.wpL_take (fuel:=0) (a':=?Az55) [0,1,2,3,4,5,6,7,8,9,10,11,12,13,14,15] (by kernel_rfl) (by kernel_rfl) (fun _ _ _ _ _ h => h) HTz55.out (fun _ => trivial) ?rz55 ?_
         case rz55 =>
          iterate 4
           refine RG.RunsIf.weak (v:=?_) (by rfl) (by rfl) (fun Z hT => ?_) ?_
           rotate_left
           ·go_simp
            rfl
           simp only [Act.put,lpA,lpZ,lpS,lgT,lgZ,lgS]
          refine RG.RunsIf.weak (v:=.int .i64 op2) (by rfl) (by rfl) (fun Z hT => ?_) ?_
          ·have x1:=keepC hT x1;have x2:=keepC hT x2;obtain ⟨z0,z1,z2,z3,z4⟩:=cellsY5 (blk_keep NEq.out hT)
           go_simp
          simp only [Act.put,lpA,lpZ,lpS,lgT,lgZ,lgS]
          iterate 2
           refine RG.RunsIf.weak (v:=.bool false) (by rfl) (by rfl) (fun Z hT => ?_) ?_
           ·go_simp
           simp only [Act.put,lpA,lpZ,lpS,lgT,lgZ,lgS]
          iterate 8
           refine RG.RunsIf.skip (by rfl) (by rfl) ?_
           simp only [Act.put,lpA,lpZ,lpS,lgT,lgZ,lgS]
          refine RG.RunsIf.weak (v:=.bool false) (by rfl) (by rfl) (fun Z hT => ?_) ?_
          ·(go_simp) <;> rfl
          simp only [Act.put,lpA,lpZ,lpS,lgT,lgZ,lgS]
          exact RG.RunsIf.nil
         refine RG.wpL_done (by kernel_rfl) ?_ _
         refine NoPanic.normal ?_
         refine HK8.out _ _ ?_
         clear HK8
         have NEn:=TW.hide (blk_keep NEq.out HTz55.out)
         have HBn : Hid (Below wo.heap.size wo Yz55):=HBq.out.trans (HTz55.out.mono HBq.out.size)
         have HOn:=TW.hide (own_belowI HOq.out HTz55.out)
         have HN3 : Hid (∀ k,k < i2 + 1 → ¬ ((Tr.ev l k).op = 7 ∧ (Tr.ev l k).a = aj)):=fun k hk => by
          by_cases e : k = i2
          ·rw [e];exact HNO.out
          ·exact HNf.out k (by omega)
         go_wp2
         refine HKb.out _ _ ?_
         go_wp2
         go_roundw
         case rel => exact ⟨i2 + 1,HLT.out,by go_num,rfl,HN3,HOn,NEn,HBn⟩
         case measure => simp [intOf];have:=HLT.out;omega
       ·obtain rfl : i = i2:=by omega
        have qk9 : ¬ (i : Int) < (i : Int):=by omega
        have hNR5 : NR wr oa O:=by
         have h9:=HOq.out
         rw [← HON0.out] at h9
         obtain ⟨a_,c_,e_,hr_⟩:=nr_own9 h9
         injection e_ with e1_ _ e3_
         subst e1_ e3_
         exact hr_
        have HNRq:=TW.hide hNR5
        have HEn:=TW.hide (Tr.no_e5 HJl.out (by rw [HEVj.out];exact h6.out) (by rw [HEVj.out]) (by rw [HEVj.out];exact HNf.out))
        clear hNR5 hlt2 HOq
        go_wp2
        refine HK.out _ _ ?_
        clear HK
        rw [← HON0.out]
        go_wp2_with fail
        refine (rrising oa oc O wr HNRq.out (by have:=HON0.out;omega)).mono ?_
        rintro e1 W1 ⟨⟨v1,out,rfl,h1,h2,h3,h4⟩,hb⟩
        have HR:=TW.hide (HPo.out W1 v1 out (own_low9 h1 ((HBW.out.trans (HBq.out.mono HBW.out.size))).size) h2 (fun x => by
         rw [h3 x]
         exact Tr.in_none HM0.out (fun k => Tr.eg_6s (by rw [HEVj.out];exact h6.out) (by rw [HEVj.out])) HEn.out x) (by have:=HON0.out;omega) (((HBW.out.trans (HBq.out.mono HBW.out.size))).trans (hb.mono ((HBW.out.trans (HBq.out.mono HBW.out.size))).size)))
        clear HPo h1 h2 h3 h4 hb
        go_wp2
        first | exact HR.out | exact ⟨rfl,HR.out⟩
     | false =>
      go_wp2_with fail
      refine (rnthS _ lc l i nu aj W (HEw.out.below (HBW.out.trans (hW.mono HBW.out.size))) (by have:=HJl.out;omega) HLn.out (by have:=HJl.out;have:=HLn.out;omega)).mono ?_
      rintro e2 W2 ⟨⟨r,rfl,hr⟩,hb2⟩
      have HRn:=TW.hide (Tr.in_e3 (l:=l) (j:=i) HJl.out (by rw [HEVj.out];exact h6) (by rw [HEVj.out]) HNj.out (by rw [HEVj.out];exact hr))
      have HB2 : Hid (Below wo.heap.size wo W2):=hW.trans (hb2.mono hW.size)
      have HO2:=TW.hide (own_belowI hO hb2)
      have HOl:=TW.hide hOl
      have hs2 : wo.heap.size ≤ W2.heap.size:=HB2.out.size
      clear hr hb2 hO hNR hW
      go_wp2_with (at_builtin;refine wpList_append_own _ rfl _ _ 23 rfl wo.heap.size 3 i3 (.int .i64 0) 1 8 Try.underlying23 hi3 hz30 hz31 hz32 rfl (by decide) _ O.length (O.map (Value.int .i64)) rfl (HO2.out.alloc _) ⟨W2.heap.size,0,none⟩ 1 1 [.int .i64 r] rfl rfl (cell_one_new _ _ _) (by simp [Value.oneCell']) (by unfold maxLen;omega) (by omega) (by simp;omega) ?_;(intro v5 w5 hown' hgrow _);have HG5:=TW.hide hgrow;have HO5:=TW.hide hown';clear hown' hgrow)
      have HB5 : Hid (Below wo.heap.size wo w5):=(HB2.out.alloc HB2.out.size _).grown HG5.out (by have:=HB2.out.size;simp;omega) (fun q hq => own_blkI HO2.out q hq)
      have hO6 : w5.ownsRow wo.heap.size 3 1 v5 (O ++ [r]).length ((O ++ [r]).map (Value.int .i64)):=by
       rw [List.length_append,List.map_append]
       exact HO5.out
      obtain ⟨O2,hO2⟩ : ∃ o,o = O ++ [r]:=⟨_,rfl⟩
      have hl6 : O2.length ≤ 2:=by rw [hO2];have:=HOl.out;simp;omega
      rw [← hO2] at hO6
      have HO9:=TW.hide hO2
      have HMf:=TW.hide hMe
      clear hO2 hMe
      obtain ⟨a5,c5,rfl,hNR5⟩:=nr_own9 hO6
      clear HG5 HO5 HO2 hO6
      refine HK.out _ _ ?_
      clear HK
      go_wp2_with fail
      refine (rrising a5 c5 O2 w5 hNR5 (by omega)).mono ?_
      rintro e1 W1 ⟨⟨v1,out,rfl,h1,h2,h3,h4⟩,hb⟩
      have HR:=TW.hide (HPo.out W1 v1 out (own_low9 h1 ((HBW.out.trans (HB5.out.mono HBW.out.size))).size) h2 (fun x => by
       rw [h3 x]
       rw [HO9.out]
       exact Tr.in_one HMf.out (fun k => Tr.eg_6 (by rw [HEVj.out];exact h6) (by rw [HEVj.out])) HRn.out x) (by omega) (((HBW.out.trans (HB5.out.mono HBW.out.size))).trans (hb.mono ((HBW.out.trans (HB5.out.mono HBW.out.size))).size)))
      clear HPo h1 h2 h3 h4 hb
      go_wp2
      first | exact HR.out | exact ⟨rfl,HR.out⟩
    ·have k6 : (oj == 6) = false:=by simp [h6]
     by_cases h5 : oj = 5
     ·have k5 : (oj == 5) = true:=by simp [h5]
      have hA : 0 ≤ aj ∧ aj < s.rooms.length:=by
       have h9:=(HGd.out i HJl.out).a s.rooms.length (by rw [show l.getD i Tr.e0 = _ from HEVj.out];simp [Tr.mnC,h5])
       rw [show l.getD i Tr.e0 = _ from HEVj.out] at h9
       exact h9
      obtain ⟨c,rfl⟩ : ∃ c : Nat,aj = (c : Int):=⟨aj.toNat,by omega⟩
      have hc0 : c < s.rooms.length:=by omega
      obtain ⟨r,hr0⟩ : ∃ r : Nat,s.rooms.getD c 0 = (r : Int):=⟨(s.rooms.getD c 0).toNat,by have:=HOk.out.rm c hc0;omega⟩
      have hr9:=HOk.out.rm c hc0
      rw [hr0] at hr9
      obtain ⟨rb,ro,rfl,y5⟩ : ∃ rb ro,ra = some ⟨rb,ro,none⟩ ∧ wo.cell? ⟨rb,ro + c,none⟩ = some (.int .i64 (r : Int)):=by
       rcases (HSw.out.sm.below HBW.out).rm with h | ⟨b',o',h,hc⟩
       ·rw [h] at hc0;simp at hc0
       ·exact ⟨b',o',h,by have:=hc c hc0;rw [hr0] at this;exact this⟩
      have hrr : s.rooms.getD (Tr.ev l i).a.toNat 0 = (r : Int):=by rw [HEVj.out];exact hr0
      have HRR:=TW.hide hrr
      have qc0 : (0 : Int) ≤ (c : Int):=by omega
      have qc1 : (c : Int) < (s.rooms.length : Int):=by omega
      have hNS:=blk_keep NS.out hW
      obtain ⟨s0,s1,s2,s3,s4⟩:=cellsY5 hNS
      have y5W:=keepC hW y5
      clear hrr hA hc0 hr0
      replace h5:=TW.hide h5
      have HOl:=TW.hide hOl
      have HO0:=TW.hide hO
      have HM0:=TW.hide hMe
      have HW0:=TW.hide hW
      clear hO hMe hW
      have hi40 : nu ≤ 40000:=by have:=HJl.out;have:=HLn.out;omega
      by_cases hnr : (r : Int) ≤ (nu : Int)
      ·obtain ⟨n,hn⟩ : ∃ n : Nat,(nu : Int) - (r : Int) = (n : Int):=⟨((nu : Int) - (r : Int)).toNat,by omega⟩
       have kw : IntKind.i64.wrap ((nu : Int) - (r : Int)) = (n : Int):=by rw [IntKind.wrap_i64];omega
       have HNr : Hid ((n : Int) + s.rooms.getD (Tr.ev l i).a.toNat 0 = (nu : Int)):=by show _ = _;rw [HRR.out];omega
       have hn40 : n ≤ 40000:=by omega
       clear hn
       refine wp_seq_k fun K1 hK1 => ?_
       have HK1:=TW.hide hK1
       clear hK1
       go_wp2
       refine HK1.out _ _ ?_
       clear HK1
       refine wp_cond_false (by rfl) ?_
       refine wp_seq_k fun K1 hK1 => ?_
       have HK1:=TW.hide hK1
       clear hK1
       go_wp2
       refine HK1.out _ _ ?_
       clear HK1
       refine wp_cond_false (by rfl) ?_
       refine wp_seq_k fun K1 hK1 => ?_
       have HK1:=TW.hide hK1
       clear hK1
       go_wp2
       refine HK1.out _ _ ?_
       clear HK1
       refine wp_cond_true (by rfl) ?_
       generalize hON : O.length = ON at *
       have HON0:=TW.hide hON
       clear hON y5W s0 s1 s2 s3 s4 z0 z1 z2 z3 z4 hNS
       refine wp_region_noPanic ?_
       refine RG.wp_region_L (fun Z => True) (fun Z => Below wo.heap.size wo Z) [] (by kernel_rfl) ?_
       refine RG.wpL_any fun Yt hY => ?_
       have HWt : Hid (Below W.heap.size W Yt):=by rw [hY];exact below_drewN (Below.refl _ _) 1
       have HTt : Hid (Below wo.heap.size wo Yt):=HW0.out.trans (HWt.out.mono HW0.out.size)
       clear hY
       refine RG.wpL_take (fuel:=4) (a':=?At28) [0,1,2,3,4,5,6,7,8,9,10,11,12] (by kernel_rfl) (by kernel_rfl) (fun _ _ _ _ _ h => h) HTt.out (fun _ => trivial) ?rt28 ?_
       case rt28 =>
        iterate 4
         refine RG.RunsIf.weak (v:=?_) (by rfl) (by rfl) (fun Z hT => ?_) ?_
         rotate_left
         ·go_simp
          rfl
         simp only [Act.put,lpA,lpZ,lpS,lgT,lgZ,lgS]
        refine RG.RunsIf.weak (v:=.int .i64 (c : Int)) (by rfl) (by rfl) (fun Z hT => ?_) ?_
        ·obtain ⟨z0,z1,z2,z3,z4⟩:=cellsY5 (blk_keep NE.out hT);obtain ⟨s0,s1,s2,s3,s4⟩:=cellsY5 (blk_keep NS.out hT);have y5:=keepC hT y5
         go_simp
        simp only [Act.put,lpA,lpZ,lpS,lgT,lgZ,lgS]
        iterate 2
         refine RG.RunsIf.weak (v:=?_) (by rfl) (by rfl) (fun Z hT => ?_) ?_
         rotate_left
         ·go_simp
          rfl
         simp only [Act.put,lpA,lpZ,lpS,lgT,lgZ,lgS]
        refine RG.RunsIf.weak (v:=.slice (some ⟨rb,ro,none⟩) s.rooms.length rc) (by rfl) (by rfl) (fun Z hT => ?_) ?_
        ·obtain ⟨z0,z1,z2,z3,z4⟩:=cellsY5 (blk_keep NE.out hT);obtain ⟨s0,s1,s2,s3,s4⟩:=cellsY5 (blk_keep NS.out hT);have y5:=keepC hT y5
         go_simp
        simp only [Act.put,lpA,lpZ,lpS,lgT,lgZ,lgS]
        refine RG.RunsIf.weak (v:=?_) (by rfl) (by rfl) (fun Z hT => ?_) ?_
        rotate_left
        ·go_simp
         rfl
        simp only [Act.put,lpA,lpZ,lpS,lgT,lgZ,lgS]
        refine RG.RunsIf.weak (v:=.int .i64 (c : Int)) (by rfl) (by rfl) (fun Z hT => ?_) ?_
        ·obtain ⟨z0,z1,z2,z3,z4⟩:=cellsY5 (blk_keep NE.out hT);obtain ⟨s0,s1,s2,s3,s4⟩:=cellsY5 (blk_keep NS.out hT);have y5:=keepC hT y5
         go_simp
        simp only [Act.put,lpA,lpZ,lpS,lgT,lgZ,lgS]
        refine RG.RunsIf.weak (v:=?_) (by rfl) (by rfl) (fun Z hT => ?_) ?_
        rotate_left
        ·go_simp
         rfl
        simp only [Act.put,lpA,lpZ,lpS,lgT,lgZ,lgS]
        refine RG.RunsIf.weak (v:=.int .i64 (r : Int)) (by rfl) (by rfl) (fun Z hT => ?_) ?_
        ·obtain ⟨z0,z1,z2,z3,z4⟩:=cellsY5 (blk_keep NE.out hT);obtain ⟨s0,s1,s2,s3,s4⟩:=cellsY5 (blk_keep NS.out hT);have y5:=keepC hT y5
         go_simp
        simp only [Act.put,lpA,lpZ,lpS,lgT,lgZ,lgS]
        refine RG.RunsIf.weak (v:=.int .i64 (n : Int)) (by rfl) (by rfl) (fun Z hT => ?_) ?_
        ·go_simp
         try exact kw
        simp only [Act.put,lpA,lpZ,lpS,lgT,lgZ,lgS]
        exact RG.RunsIf.nil
       refine RG.wpL_step (i:=13) (by kernel_rfl) (by rfl) (by rfl) (fun KX hK => ?_)
       have HK:=TW.hide hK
       clear hK
       go_simp
       refine (rnthT _ lc l i n (c : Int) Yt (HEw.out.below (HBW.out.trans (HTt.out.mono HBW.out.size))) (by have:=HJl.out;omega) HLn.out hn40).mono ?_
       rintro e_W2 W2 ⟨⟨r1,rfl,hr⟩,hb⟩
       have HT1 : Hid (Below wo.heap.size wo W2):=HTt.out.trans (hb.mono HTt.out.size)
       have HO2:=TW.hide (own_belowI (own_belowI HO0.out HWt.out) hb)
       have HRr:=TW.hide hr
       clear hr
       refine HK.out _ _ HT1.out (fun _ => trivial) ?_
       clear HK KX hb
       try simp only [Act.put,lpA,lpZ,lpS,lgT,lgZ,lgS]
       refine RG.wpL_step (i:=14) (by kernel_rfl) (by rfl) (by rfl) (fun KX hK => ?_)
       have HK:=TW.hide hK
       clear hK
       go_simp
       have HQc : Hid (∀ j u,([.int .i64 r1] : List Value)[j]? = some u → (W2.alloc (.cells #[.int .i64 r1] 3)).cell? ((⟨W2.heap.size,0,none⟩ : Addr).add j) = some u):=cell_one_new _ _ _
       have HAb : Hid (Below wo.heap.size wo (W2.alloc (.cells #[.int .i64 r1] 3))):=HT1.out.alloc HT1.out.size _
       have HOa:=TW.hide (HO2.out.alloc (.cells #[.int .i64 r1] 3))
       refine HK.out _ _ HAb.out (fun _ => trivial) ?_
       clear HK KX HO2 HWt HTt HT1
       generalize (W2.alloc (.cells #[.int .i64 r1] 3)) = Yb at *
       generalize W2.heap.size = gq at *
       try simp only [Act.put,lpA,lpZ,lpS,lgT,lgZ,lgS]
       refine RG.wpL_step (i:=15) (by kernel_rfl) (by rfl) (by rfl) (fun KX hK => ?_)
       have HK:=TW.hide hK
       clear hK
       refine wp_append_at _ _ 23 (by rfl) wo.heap.size 3 i3 (.int .i64 0) 1 8 Try.underlying23 hi3 hz30 hz31 hz32 rfl (by decide) (.slice oa ON oc) ON (O.map (Value.int .i64)) (by rfl) HOa.out ⟨gq,0,none⟩ 1 1 [.int .i64 r1] (by rfl) rfl HQc.out (by simp [Value.oneCell']) (by unfold maxLen;have:=HOl.out;omega) (by have:=HOl.out;omega) HAb.out.size ?_
       intro v5 w5 hown5 hgr5 _
       obtain ⟨a5,c5,rfl⟩:=own_openE hown5
       have HB5 : Hid (Below wo.heap.size wo w5):=HAb.out.grown hgr5 HAb.out.size (fun q hq => own_blkI HOa.out q hq)
       have HO5:=TW.hide hown5
       clear hown5 hgr5
       refine HK.out _ _ HB5.out (fun _ => trivial) ?_
       clear HK KX HOa HQc HAb
       try simp only [Act.put,lpA,lpZ,lpS,lgT,lgZ,lgS]
       refine RG.wpL_take (fuel:=0) (a':=?Ap28) [16] (by kernel_rfl) (by kernel_rfl) (fun _ _ _ _ _ h => h) HB5.out (fun _ => trivial) ?rp28 ?_
       case rp28 =>
        refine RG.RunsIf.weak (v:=?_) (by rfl) (by rfl) (fun Z hT => ?_) ?_
        rotate_left
        ·go_simp
         rfl
        simp only [Act.put,lpA,lpZ,lpS,lgT,lgZ,lgS]
        exact RG.RunsIf.nil
       refine RG.wpL_done (by kernel_rfl) ?_ _
       refine NoPanic.normal ?_
       have HEn:=TW.hide (Tr.in_e4 HJl.out (by rw [HEVj.out];exact h5.out) HNj.out HNr.out (by rw [HEVj.out];exact HRr.out))
       obtain ⟨O3,hO3⟩ : ∃ o,o = O ++ [r1]:=⟨_,rfl⟩
       have HL3 : Hid (O3.length = ON + 1):=by show _ = _;rw [hO3,List.length_append,HON0.out];rfl
       have HE3:=TW.hide hO3
       have hNR5 : NR w5 a5 O3:=by
        have h9 : w5.ownsRow wo.heap.size 3 1 (.slice a5 (ON + 1) c5) (ON + 1) ((O ++ [r1]).map (Value.int .i64)):=by rw [List.map_append];exact HO5.out
        rw [← hO3,← HL3.out] at h9
        obtain ⟨a_,c_,e_,hr_⟩:=nr_own9 h9
        injection e_ with e1_ _ e3_
        subst e1_ e3_
        exact hr_
       have HNRq:=TW.hide hNR5
       clear hNR5 hO3 HO5
       go_wp2
       refine HK.out _ _ ?_
       clear HK
       rw [← HL3.out]
       go_wp2_with fail
       refine (rrising a5 c5 O3 w5 HNRq.out (by have:=HL3.out;have:=HOl.out;omega)).mono ?_
       rintro e1 W1 ⟨⟨v1,out,rfl,h1,h2,h3,h4⟩,hb⟩
       have HR:=TW.hide (HPo.out W1 v1 out (own_low9 h1 ((HBW.out.trans (HB5.out.mono HBW.out.size))).size) h2 (fun x => by
        rw [h3 x]
        rw [HE3.out]
        exact Tr.in_one HM0.out (fun k => Tr.eg_5 (by rw [HEVj.out];exact h5.out)) HEn.out x) (by have:=HL3.out;have:=HOl.out;omega) (((HBW.out.trans (HB5.out.mono HBW.out.size))).trans (hb.mono ((HBW.out.trans (HB5.out.mono HBW.out.size))).size)))
       clear HPo h1 h2 h3 h4 hb
       go_wp2
       first | exact HR.out | exact ⟨rfl,HR.out⟩
      ·have knr : (nu : Int) < (r : Int):=by omega
       have HEn:=TW.hide (Tr.no_e4 (s:=s) (l:=l) (j:=i) (by rw [HEVj.out];exact h5.out) HNj.out (by rw [HRR.out];exact knr))
       clear hnr HRR
       go_wp2
       refine HK.out _ _ ?_
       clear HK
       go_wp2_with fail
       refine (rrising oa oc O W hNR (by have:=HOl.out;omega)).mono ?_
       rintro e1 W1 ⟨⟨v1,out,rfl,h1,h2,h3,h4⟩,hb⟩
       have HR:=TW.hide (HPo.out W1 v1 out (own_low9 h1 ((HBW.out.trans (HW0.out.mono HBW.out.size))).size) h2 (fun x => by
        rw [h3 x]
        exact Tr.in_none HM0.out (fun k => Tr.eg_5 (by rw [HEVj.out];exact h5.out)) HEn.out x) (by have:=HOl.out;omega) (((HBW.out.trans (HW0.out.mono HBW.out.size))).trans (hb.mono ((HBW.out.trans (HW0.out.mono HBW.out.size))).size)))
       clear HPo h1 h2 h3 h4 hb
       go_wp2
       first | exact HR.out | exact ⟨rfl,HR.out⟩
     ·have k5 : (oj == 5) = false:=by simp [h5]
      by_cases h8 : oj = 8
      ·have k8 : (oj == 8) = true:=by simp [h8]
       replace h8:=TW.hide h8
       refine wp_seq_k fun K1 hK1 => ?_
       have HK1:=TW.hide hK1
       clear hK1
       go_wp2
       refine HK1.out _ _ ?_
       clear HK1
       refine wp_cond_false (by rfl) ?_
       refine wp_seq_k fun K1 hK1 => ?_
       have HK1:=TW.hide hK1
       clear hK1
       go_wp2
       refine HK1.out _ _ ?_
       clear HK1
       refine wp_cond_false (by rfl) ?_
       refine wp_seq_k fun K1 hK1 => ?_
       have HK1:=TW.hide hK1
       clear hK1
       go_wp2
       refine HK1.out _ _ ?_
       clear HK1
       refine wp_cond_false (by rfl) ?_
       refine wp_seq_k fun K1 hK1 => ?_
       have HK1:=TW.hide hK1
       clear hK1
       go_wp2
       refine HK1.out _ _ ?_
       clear HK1
       refine wp_cond_true (by rfl) ?_
       have HOl:=TW.hide hOl
       have HO0:=TW.hide hO
       have HM0:=TW.hide hMe
       have HW0:=TW.hide hW
       clear hO hMe hW hNR h1
       generalize hON : O.length = ON at *
       have HON0:=TW.hide hON
       clear hON
       refine wp_seq_k fun K1 hK1 => ?_
       have HK1:=TW.hide hK1
       clear hK1
       go_wp2
       refine HK1.out _ _ ?_
       clear HK1
       refine wp_seq_k fun Kc hKc => ?_
       have HKc:=TW.hide hKc
       clear hKc
       go_wp2
       go_loopw [14,15] (fun av iv wr => ∃ (i2 af : Nat),i2 ≤ i ∧ af ≤ i ∧ iv = .int .i64 (i2 : Int) ∧ av = .int .i64 (af : Int) ∧ Hid ((af = 0 ∧ ∀ k,k < i2 → ¬ ((Tr.ev l k).op = 8 ∧ (Tr.ev l k).a = aj)) ∨ (af < i2 ∧ ((Tr.ev l af).op = 8 ∧ (Tr.ev l af).a = aj) ∧ ∀ k,af < k → k < i2 → ¬ ((Tr.ev l k).op = 8 ∧ (Tr.ev l k).a = aj))) ∧ Hid (wr.ownsRow wo.heap.size 3 1 (.slice oa ON oc) ON (O.map (Value.int .i64))) ∧ Hid (wr.heap[ge]? = some (.cells #[.int .i64 (wj : Int),.int .i64 oj,.int .i64 aj,.int .i64 vj,.bool sj] 65 (0,0))) ∧ Hid (Below wo.heap.size wo wr)) (fun av iv wr => i - (intOf iv).toNat)
       case atStart => exact ⟨0,0,Nat.zero_le _,Nat.zero_le _,rfl,rfl,TW.hide (.inl ⟨rfl,fun k hk => by omega⟩),HO0,hNE,HW0⟩
       case round =>
        obtain ⟨i2,af,hi2,haf,rfl,rfl,HAf,HOq,NEq,HBq⟩:=hrel
        have hi40 : i ≤ 40000:=by have:=HJl.out;have:=HLn.out;omega
        clear HO0 HW0 hNE
        by_cases hlt2 : i2 < i
        ·obtain ⟨b2,o2,who2,op2,a2,va2,sh2,hla4,hev2,_,_,_,_,x0,x1,x2,x3,x4⟩:=(HEw.out.below (HBW.out.trans (HBq.out.mono HBW.out.size))).get i2 (by have:=HJl.out;omega)
         injection hla4 with hla4
         injection hla4 with hla5 hla6
         subst hla5 hla6
         have HEV2:=TW.hide hev2
         have qk1 : (i2 : Int) < (i : Int):=by omega
         have qk2 : (i2 : Int) < (l.length : Int):=by have:=HJl.out;omega
         have qk0 : (0 : Int) ≤ (i2 : Int):=by omega
         have qk4 : i2 + 1 ≤ 40000:=by have:=HJl.out;have:=HLn.out;omega
         have HLT:=TW.hide hlt2
         have HXq : Hid (Below wr.heap.size wr wr):=Below.refl _ _
         clear hev2 hlt2 x0 x3 x4
         refine wp_seq_k fun K1 hK1 => ?_
         have HK1:=TW.hide hK1
         clear hK1
         go_wp2
         refine HK1.out _ _ ?_
         clear HK1
         refine wp_seq_k fun Kb hKb => ?_
         have HKb:=TW.hide hKb
         clear hKb
         refine wp_block ?_
         by_cases ho2 : op2 = 8
         ·have ko2 : (op2 == 8) = true:=by simp [ho2]
          by_cases ha2 : a2 = aj
          ·have ka2 : (a2 == aj) = true:=by simp [ha2]
           have HYE : Hid ((Tr.ev l i2).op = 8 ∧ (Tr.ev l i2).a = aj):=by show _ ∧ _;rw [HEV2.out];exact ⟨ho2,ha2⟩
           clear ho2 ha2
           refine wp_seq_k fun K8 hK8 => ?_
           have HK8:=TW.hide hK8
           clear hK8
           refine wp_region_noPanic ?_
           refine RG.wp_region_L (fun Z => True) (fun Z => Below wr.heap.size wr Z) [] (by kernel_rfl) ?_
           refine RG.wpL_any fun Yz47 hY => ?_
           have HTz47 : Hid (Below wr.heap.size wr Yz47):=by rw [hY];exact below_drewN HXq.out 1
           clear hY
           refine RG.wpL_take (fuel:=0) (a':=?Az47) [0,1,2,3,4,5,6,7,8,9,10,11,12,13,14,15] (by kernel_rfl) (by kernel_rfl) (fun _ _ _ _ _ h => h) HTz47.out (fun _ => trivial) ?rz47 ?_
           case rz47 =>
            iterate 4
             refine RG.RunsIf.weak (v:=?_) (by rfl) (by rfl) (fun Z hT => ?_) ?_
             rotate_left
             ·go_simp
              rfl
             simp only [Act.put,lpA,lpZ,lpS,lgT,lgZ,lgS]
            refine RG.RunsIf.weak (v:=.int .i64 op2) (by rfl) (by rfl) (fun Z hT => ?_) ?_
            ·have x1:=keepC hT x1;have x2:=keepC hT x2;obtain ⟨z0,z1,z2,z3,z4⟩:=cellsY5 (blk_keep NEq.out hT)
             go_simp
            simp only [Act.put,lpA,lpZ,lpS,lgT,lgZ,lgS]
            iterate 2
             refine RG.RunsIf.weak (v:=.bool true) (by rfl) (by rfl) (fun Z hT => ?_) ?_
             ·go_simp
             simp only [Act.put,lpA,lpZ,lpS,lgT,lgZ,lgS]
            iterate 4
             refine RG.RunsIf.weak (v:=?_) (by rfl) (by rfl) (fun Z hT => ?_) ?_
             rotate_left
             ·go_simp
              rfl
             simp only [Act.put,lpA,lpZ,lpS,lgT,lgZ,lgS]
            refine RG.RunsIf.weak (v:=.int .i64 a2) (by rfl) (by rfl) (fun Z hT => ?_) ?_
            ·have x1:=keepC hT x1;have x2:=keepC hT x2;obtain ⟨z0,z1,z2,z3,z4⟩:=cellsY5 (blk_keep NEq.out hT)
             go_simp
            simp only [Act.put,lpA,lpZ,lpS,lgT,lgZ,lgS]
            refine RG.RunsIf.weak (v:=?_) (by rfl) (by rfl) (fun Z hT => ?_) ?_
            rotate_left
            ·go_simp
             rfl
            simp only [Act.put,lpA,lpZ,lpS,lgT,lgZ,lgS]
            refine RG.RunsIf.weak (v:=.int .i64 aj) (by rfl) (by rfl) (fun Z hT => ?_) ?_
            ·have x1:=keepC hT x1;have x2:=keepC hT x2;obtain ⟨z0,z1,z2,z3,z4⟩:=cellsY5 (blk_keep NEq.out hT)
             go_simp
            simp only [Act.put,lpA,lpZ,lpS,lgT,lgZ,lgS]
            refine RG.RunsIf.weak (v:=.bool true) (by rfl) (by rfl) (fun Z hT => ?_) ?_
            ·go_simp
            simp only [Act.put,lpA,lpZ,lpS,lgT,lgZ,lgS]
            refine RG.RunsIf.weak (v:=.bool true) (by rfl) (by rfl) (fun Z hT => ?_) ?_
            ·(go_simp) <;> rfl
            simp only [Act.put,lpA,lpZ,lpS,lgT,lgZ,lgS]
            exact RG.RunsIf.nil
           refine RG.wpL_done (by kernel_rfl) ?_ _
           refine NoPanic.normal ?_
           refine HK8.out _ _ ?_
           clear HK8
           have NEn:=TW.hide (blk_keep NEq.out HTz47.out)
           have HBn : Hid (Below wo.heap.size wo Yz47):=HBq.out.trans (HTz47.out.mono HBq.out.size)
           have HOn:=TW.hide (own_belowI HOq.out HTz47.out)
           have HA3 : Hid ((i2 = 0 ∧ ∀ k,k < (i2 + 1) → ¬ ((Tr.ev l k).op = 8 ∧ (Tr.ev l k).a = aj)) ∨ (i2 < (i2 + 1) ∧ ((Tr.ev l i2).op = 8 ∧ (Tr.ev l i2).a = aj) ∧ ∀ k,i2 < k → k < (i2 + 1) → ¬ ((Tr.ev l k).op = 8 ∧ (Tr.ev l k).a = aj))):=.inr ⟨by omega,HYE.out,fun k h1 h2 => by omega⟩
           go_wp2
           refine HKb.out _ _ ?_
           go_wp2
           go_roundw
           case rel => exact ⟨i2 + 1,i2,HLT.out,by omega,by go_num,rfl,HA3,HOn,NEn,HBn⟩
           case measure => simp [intOf];have:=HLT.out;omega
          ·have ka2 : (a2 == aj) = false:=by simp [ha2]
           have HNO : Hid (¬ ((Tr.ev l i2).op = 8 ∧ (Tr.ev l i2).a = aj)):=by show ¬ _;rw [HEV2.out];exact fun h => ha2 h.2
           clear ho2 ha2
           refine wp_seq_k fun K8 hK8 => ?_
           have HK8:=TW.hide hK8
           clear hK8
           refine wp_region_noPanic ?_
           refine RG.wp_region_L (fun Z => True) (fun Z => Below wr.heap.size wr Z) [] (by kernel_rfl) ?_
           refine RG.wpL_any fun Yz48 hY => ?_
           have HTz48 : Hid (Below wr.heap.size wr Yz48):=by rw [hY];exact below_drewN HXq.out 1
           clear hY
           refine RG.wpL_take (fuel:=0) (a':=?Az48) [0,1,2,3,4,5,6,7,8,9,10,11,12,13,14,15] (by kernel_rfl) (by kernel_rfl) (fun _ _ _ _ _ h => h) HTz48.out (fun _ => trivial) ?rz48 ?_
           case rz48 =>
            iterate 4
             refine RG.RunsIf.weak (v:=?_) (by rfl) (by rfl) (fun Z hT => ?_) ?_
             rotate_left
             ·go_simp
              rfl
             simp only [Act.put,lpA,lpZ,lpS,lgT,lgZ,lgS]
            refine RG.RunsIf.weak (v:=.int .i64 op2) (by rfl) (by rfl) (fun Z hT => ?_) ?_
            ·have x1:=keepC hT x1;have x2:=keepC hT x2;obtain ⟨z0,z1,z2,z3,z4⟩:=cellsY5 (blk_keep NEq.out hT)
             go_simp
            simp only [Act.put,lpA,lpZ,lpS,lgT,lgZ,lgS]
            iterate 2
             refine RG.RunsIf.weak (v:=.bool true) (by rfl) (by rfl) (fun Z hT => ?_) ?_
             ·go_simp
             simp only [Act.put,lpA,lpZ,lpS,lgT,lgZ,lgS]
            iterate 4
             refine RG.RunsIf.weak (v:=?_) (by rfl) (by rfl) (fun Z hT => ?_) ?_
             rotate_left
             ·go_simp
              rfl
             simp only [Act.put,lpA,lpZ,lpS,lgT,lgZ,lgS]
            refine RG.RunsIf.weak (v:=.int .i64 a2) (by rfl) (by rfl) (fun Z hT => ?_) ?_
            ·have x1:=keepC hT x1;have x2:=keepC hT x2;obtain ⟨z0,z1,z2,z3,z4⟩:=cellsY5 (blk_keep NEq.out hT)
             go_simp
            simp only [Act.put,lpA,lpZ,lpS,lgT,lgZ,lgS]
            refine RG.RunsIf.weak (v:=?_) (by rfl) (by rfl) (fun Z hT => ?_) ?_
            rotate_left
            ·go_simp
             rfl
            simp only [Act.put,lpA,lpZ,lpS,lgT,lgZ,lgS]
            refine RG.RunsIf.weak (v:=.int .i64 aj) (by rfl) (by rfl) (fun Z hT => ?_) ?_
            ·have x1:=keepC hT x1;have x2:=keepC hT x2;obtain ⟨z0,z1,z2,z3,z4⟩:=cellsY5 (blk_keep NEq.out hT)
             go_simp
            simp only [Act.put,lpA,lpZ,lpS,lgT,lgZ,lgS]
            refine RG.RunsIf.weak (v:=.bool false) (by rfl) (by rfl) (fun Z hT => ?_) ?_
            ·go_simp
            simp only [Act.put,lpA,lpZ,lpS,lgT,lgZ,lgS]
            refine RG.RunsIf.weak (v:=.bool false) (by rfl) (by rfl) (fun Z hT => ?_) ?_
            ·(go_simp) <;> rfl
            simp only [Act.put,lpA,lpZ,lpS,lgT,lgZ,lgS]
            exact RG.RunsIf.nil
           refine RG.wpL_done (by kernel_rfl) ?_ _
           refine NoPanic.normal ?_
           refine HK8.out _ _ ?_
           clear HK8
           have NEn:=TW.hide (blk_keep NEq.out HTz48.out)
           have HBn : Hid (Below wo.heap.size wo Yz48):=HBq.out.trans (HTz48.out.mono HBq.out.size)
           have HOn:=TW.hide (own_belowI HOq.out HTz48.out)
           have HA3 : Hid ((af = 0 ∧ ∀ k,k < (i2 + 1) → ¬ ((Tr.ev l k).op = 8 ∧ (Tr.ev l k).a = aj)) ∨ (af < (i2 + 1) ∧ ((Tr.ev l af).op = 8 ∧ (Tr.ev l af).a = aj) ∧ ∀ k,af < k → k < (i2 + 1) → ¬ ((Tr.ev l k).op = 8 ∧ (Tr.ev l k).a = aj))):=by
            rcases HAf.out with ⟨h1,h2⟩ | ⟨h1,h2,h3⟩
            ·refine .inl ⟨h1,fun k hk => ?_⟩
             by_cases e : k = i2
             ·rw [e];exact HNO.out
             ·exact h2 k (by omega)
            ·refine .inr ⟨by omega,h2,fun k h4 h5 => ?_⟩
             by_cases e : k = i2
             ·rw [e];exact HNO.out
             ·exact h3 k h4 (by omega)
           go_wp2
           refine HKb.out _ _ ?_
           go_wp2
           go_roundw
           case rel => exact ⟨i2 + 1,af,HLT.out,haf,by go_num,rfl,HA3,HOn,NEn,HBn⟩
           case measure => simp [intOf];have:=HLT.out;omega
         ·have ko2 : (op2 == 8) = false:=by simp [ho2]
          have HNO : Hid (¬ ((Tr.ev l i2).op = 8 ∧ (Tr.ev l i2).a = aj)):=by show ¬ _;rw [HEV2.out];exact fun h => ho2 h.1
          clear ho2
          refine wp_seq_k fun K8 hK8 => ?_
          have HK8:=TW.hide hK8
          clear hK8
          refine wp_region_noPanic ?_
          refine RG.wp_region_L (fun Z => True) (fun Z => Below wr.heap.size wr Z) [] (by kernel_rfl) ?_
          refine RG.wpL_any fun Yz49 hY => ?_
          have HTz49 : Hid (Below wr.heap.size wr Yz49):=by rw [hY];exact below_drewN HXq.out 1
          clear hY
          refine RG.wpL_take (fuel:=0) (a':=?Az49) [0,1,2,3,4,5,6,7,8,9,10,11,12,13,14,15] (by kernel_rfl) (by kernel_rfl) (fun _ _ _ _ _ h => h) HTz49.out (fun _ => trivial) ?rz49 ?_
          case rz49 =>
           iterate 4
            refine RG.RunsIf.weak (v:=?_) (by rfl) (by rfl) (fun Z hT => ?_) ?_
            rotate_left
            ·go_simp
             rfl
            simp only [Act.put,lpA,lpZ,lpS,lgT,lgZ,lgS]
           refine RG.RunsIf.weak (v:=.int .i64 op2) (by rfl) (by rfl) (fun Z hT => ?_) ?_
           ·have x1:=keepC hT x1;have x2:=keepC hT x2;obtain ⟨z0,z1,z2,z3,z4⟩:=cellsY5 (blk_keep NEq.out hT)
            go_simp
           simp only [Act.put,lpA,lpZ,lpS,lgT,lgZ,lgS]
           iterate 2
            refine RG.RunsIf.weak (v:=.bool false) (by rfl) (by rfl) (fun Z hT => ?_) ?_
            ·go_simp
            simp only [Act.put,lpA,lpZ,lpS,lgT,lgZ,lgS]
           iterate 8
            refine RG.RunsIf.skip (by rfl) (by rfl) ?_
            simp only [Act.put,lpA,lpZ,lpS,lgT,lgZ,lgS]
           refine RG.RunsIf.weak (v:=.bool false) (by rfl) (by rfl) (fun Z hT => ?_) ?_
           ·(go_simp) <;> rfl
           simp only [Act.put,lpA,lpZ,lpS,lgT,lgZ,lgS]
           exact RG.RunsIf.nil
          refine RG.wpL_done (by kernel_rfl) ?_ _
          refine NoPanic.normal ?_
          refine HK8.out _ _ ?_
          clear HK8
          have NEn:=TW.hide (blk_keep NEq.out HTz49.out)
          have HBn : Hid (Below wo.heap.size wo Yz49):=HBq.out.trans (HTz49.out.mono HBq.out.size)
          have HOn:=TW.hide (own_belowI HOq.out HTz49.out)
          have HA3 : Hid ((af = 0 ∧ ∀ k,k < (i2 + 1) → ¬ ((Tr.ev l k).op = 8 ∧ (Tr.ev l k).a = aj)) ∨ (af < (i2 + 1) ∧ ((Tr.ev l af).op = 8 ∧ (Tr.ev l af).a = aj) ∧ ∀ k,af < k → k < (i2 + 1) → ¬ ((Tr.ev l k).op = 8 ∧ (Tr.ev l k).a = aj))):=by
           rcases HAf.out with ⟨h1,h2⟩ | ⟨h1,h2,h3⟩
           ·refine .inl ⟨h1,fun k hk => ?_⟩
            by_cases e : k = i2
            ·rw [e];exact HNO.out
            ·exact h2 k (by omega)
           ·refine .inr ⟨by omega,h2,fun k h4 h5 => ?_⟩
            by_cases e : k = i2
            ·rw [e];exact HNO.out
            ·exact h3 k h4 (by omega)
          go_wp2
          refine HKb.out _ _ ?_
          go_wp2
          go_roundw
          case rel => exact ⟨i2 + 1,af,HLT.out,haf,by go_num,rfl,HA3,HOn,NEn,HBn⟩
          case measure => simp [intOf];have:=HLT.out;omega
        ·obtain rfl : i = i2:=by omega
         have qk9 : ¬ (i : Int) < (i : Int):=by omega
         have HO0:=HOq
         have hNE:=NEq
         have HW0:=HBq
         clear hlt2 HOq NEq HBq
         go_wp2
         refine HKc.out _ _ ?_
         clear HKc
         go_wp2
         go_loopw [8,16] (fun ov iv wr => ∃ (i2 : Nat) (O2 : List Int) (oa2 : Option Addr) (oc2 ON2 : Nat),af ≤ i2 ∧ i2 ≤ i ∧ iv = .int .i64 (i2 : Int) ∧ ov = .slice oa2 ON2 oc2 ∧ Hid (O2.length = ON2) ∧ ON2 ≤ i2 + 1 ∧ Hid (wr.ownsRow wo.heap.size 3 1 (.slice oa2 ON2 oc2) ON2 (O2.map (Value.int .i64))) ∧ Hid (∀ x,x ∈ O2 ↔ ∃ k : Nat,x = (k : Int) ∧ ((Tr.E1 l k i ∨ Tr.E2 l k i) ∨ (af ≤ k ∧ k < i2 ∧ (Tr.ev l k).op = 9 ∧ (Tr.ev l k).a = aj))) ∧ Hid (wr.heap[ge]? = some (.cells #[.int .i64 (wj : Int),.int .i64 oj,.int .i64 aj,.int .i64 vj,.bool sj] 65 (0,0))) ∧ Hid (Below wo.heap.size wo wr)) (fun ov iv wr => i - (intOf iv).toNat)
         case atStart => exact ⟨af,O,oa,oc,ON,Nat.le_refl _,haf,rfl,rfl,HON0,by have:=HOl.out;omega,HO0,TW.hide (fun x => by
           rw [HM0.out x]
           constructor
           ·rintro ⟨k,rfl,h⟩;exact ⟨k,rfl,.inl h⟩
           ·rintro ⟨k,rfl,h | h⟩
            ·exact ⟨k,rfl,h⟩
            ·have:=h.1;have:=h.2.1;omega),hNE,HW0⟩
         case round =>
          obtain ⟨i2,O2,oa2,oc2,ON2,hfr,hi2,rfl,rfl,HON,hOi2,HOq,HMq,NEq,HBq⟩:=hrel
          have hi40 : i ≤ 40000:=by have:=HJl.out;have:=HLn.out;omega
          clear HO0 HM0 HW0 hNE HON0
          by_cases hlt2 : i2 < i
          ·obtain ⟨b2,o2,who2,op2,a2,va2,sh2,hla4,hev2,_,_,_,_,x0,x1,x2,x3,x4⟩:=(HEw.out.below (HBW.out.trans (HBq.out.mono HBW.out.size))).get i2 (by have:=HJl.out;omega)
           injection hla4 with hla4
           injection hla4 with hla5 hla6
           subst hla5 hla6
           have HEV2:=TW.hide hev2
           have qk1 : (i2 : Int) < (i : Int):=by omega
           have qk2 : (i2 : Int) < (l.length : Int):=by have:=HJl.out;omega
           have qk0 : (0 : Int) ≤ (i2 : Int):=by omega
           have qk4 : i2 + 1 ≤ 40000:=by have:=HJl.out;have:=HLn.out;omega
           have HLT:=TW.hide hlt2
           have HXq : Hid (Below wr.heap.size wr wr):=Below.refl _ _
           clear hev2 hlt2 x0 x3 x4
           refine wp_seq_k fun K1 hK1 => ?_
           have HK1:=TW.hide hK1
           clear hK1
           go_wp2
           refine HK1.out _ _ ?_
           clear HK1
           refine wp_seq_k fun Kb hKb => ?_
           have HKb:=TW.hide hKb
           clear hKb
           refine wp_block ?_
           by_cases ho2 : op2 = 9
           ·have ko2 : (op2 == 9) = true:=by simp [ho2]
            by_cases ha2 : a2 = aj
            ·have ka2 : (a2 == aj) = true:=by simp [ha2]
             have HYE : Hid ((Tr.ev l i2).op = 9 ∧ (Tr.ev l i2).a = aj):=by show _ ∧ _;rw [HEV2.out];exact ⟨ho2,ha2⟩
             clear ho2 ha2
             refine wp_seq_k fun K8 hK8 => ?_
             have HK8:=TW.hide hK8
             clear hK8
             refine wp_region_noPanic ?_
             refine RG.wp_region_L (fun Z => True) (fun Z => Below wr.heap.size wr Z) [] (by kernel_rfl) ?_
             refine RG.wpL_any fun Yz50 hY => ?_
             have HTz50 : Hid (Below wr.heap.size wr Yz50):=by rw [hY];exact below_drewN HXq.out 1
             clear hY
             refine RG.wpL_take (fuel:=0) (a':=?Az50) [0,1,2,3,4,5,6,7,8,9,10,11,12,13,14,15] (by kernel_rfl) (by kernel_rfl) (fun _ _ _ _ _ h => h) HTz50.out (fun _ => trivial) ?rz50 ?_
             case rz50 =>
              iterate 4
               refine RG.RunsIf.weak (v:=?_) (by rfl) (by rfl) (fun Z hT => ?_) ?_
               rotate_left
               ·go_simp
                rfl
               simp only [Act.put,lpA,lpZ,lpS,lgT,lgZ,lgS]
              refine RG.RunsIf.weak (v:=.int .i64 op2) (by rfl) (by rfl) (fun Z hT => ?_) ?_
              ·have x1:=keepC hT x1;have x2:=keepC hT x2;obtain ⟨z0,z1,z2,z3,z4⟩:=cellsY5 (blk_keep NEq.out hT)
               go_simp
              simp only [Act.put,lpA,lpZ,lpS,lgT,lgZ,lgS]
              iterate 2
               refine RG.RunsIf.weak (v:=.bool true) (by rfl) (by rfl) (fun Z hT => ?_) ?_
               ·go_simp
               simp only [Act.put,lpA,lpZ,lpS,lgT,lgZ,lgS]
              iterate 4
               refine RG.RunsIf.weak (v:=?_) (by rfl) (by rfl) (fun Z hT => ?_) ?_
               rotate_left
               ·go_simp
                rfl
               simp only [Act.put,lpA,lpZ,lpS,lgT,lgZ,lgS]
              refine RG.RunsIf.weak (v:=.int .i64 a2) (by rfl) (by rfl) (fun Z hT => ?_) ?_
              ·have x1:=keepC hT x1;have x2:=keepC hT x2;obtain ⟨z0,z1,z2,z3,z4⟩:=cellsY5 (blk_keep NEq.out hT)
               go_simp
              simp only [Act.put,lpA,lpZ,lpS,lgT,lgZ,lgS]
              refine RG.RunsIf.weak (v:=?_) (by rfl) (by rfl) (fun Z hT => ?_) ?_
              rotate_left
              ·go_simp
               rfl
              simp only [Act.put,lpA,lpZ,lpS,lgT,lgZ,lgS]
              refine RG.RunsIf.weak (v:=.int .i64 aj) (by rfl) (by rfl) (fun Z hT => ?_) ?_
              ·have x1:=keepC hT x1;have x2:=keepC hT x2;obtain ⟨z0,z1,z2,z3,z4⟩:=cellsY5 (blk_keep NEq.out hT)
               go_simp
              simp only [Act.put,lpA,lpZ,lpS,lgT,lgZ,lgS]
              refine RG.RunsIf.weak (v:=.bool true) (by rfl) (by rfl) (fun Z hT => ?_) ?_
              ·go_simp
              simp only [Act.put,lpA,lpZ,lpS,lgT,lgZ,lgS]
              refine RG.RunsIf.weak (v:=.bool true) (by rfl) (by rfl) (fun Z hT => ?_) ?_
              ·(go_simp) <;> rfl
              simp only [Act.put,lpA,lpZ,lpS,lgT,lgZ,lgS]
              exact RG.RunsIf.nil
             refine RG.wpL_done (by kernel_rfl) ?_ _
             refine NoPanic.normal ?_
             refine HK8.out _ _ ?_
             clear HK8
             have NEn:=TW.hide (blk_keep NEq.out HTz50.out)
             have HBn : Hid (Below wo.heap.size wo Yz50):=HBq.out.trans (HTz50.out.mono HBq.out.size)
             have HOn:=TW.hide (own_belowI HOq.out HTz50.out)
             go_wp2_with (at_builtin;refine wpList_append_own _ rfl _ _ 23 rfl wo.heap.size 3 i3 (.int .i64 0) 1 8 Try.underlying23 hi3 hz30 hz31 hz32 rfl (by decide) _ ON2 (O2.map (Value.int .i64)) rfl (HOn.out.alloc _) ⟨Yz50.heap.size,0,none⟩ 1 1 [.int .i64 (i2 : Int)] rfl rfl (cell_one_new _ _ _) (by simp [Value.oneCell']) (by unfold maxLen;omega) (by omega) (by have:=HBn.out.size;simp;omega) ?_;(intro v5 w5 hown' hgrow _);have HG5:=TW.hide hgrow;obtain ⟨a5,c5,rfl⟩:=own_openE hown';have HO5:=TW.hide hown';clear hown' hgrow)
             have HB5 : Hid (Below wo.heap.size wo w5):=(HBn.out.alloc HBn.out.size _).grown HG5.out (by have:=HBn.out.size;simp;omega) (fun q hq => own_blkI HOn.out q hq)
             have hO6 : w5.ownsRow wo.heap.size 3 1 (.slice a5 (ON2 + 1) c5) (ON2 + 1) ((O2 ++ [(i2 : Int)]).map (Value.int .i64)):=by
              rw [List.map_append]
              exact HO5.out
             have NE5 : Hid (w5.heap[ge]? = some (.cells #[.int .i64 (wj : Int),.int .i64 oj,.int .i64 aj,.int .i64 vj,.bool sj] 65 (0,0))):=TW.hide (by rw [HG5.out.block ge (by have:=blk_lt NEn.out;simp;omega) (fun e => absurd (own_blkI HOn.out ge e.symm) (by have:=blk_lt NE.out;omega))];exact blk_alloc NEn.out)
             clear HG5 HO5 HOn HBn NEn
             obtain ⟨O3,hO3⟩ : ∃ o,o = O2 ++ [(i2 : Int)]:=⟨_,rfl⟩
             have HL3 : Hid (O3.length = ON2 + 1):=by show _ = _;rw [hO3,List.length_append,HON.out];rfl
             rw [← hO3] at hO6
             have HO6:=TW.hide hO6
             have HE3:=TW.hide hO3
             clear hO6 hO3
             have HM3 : Hid (∀ x,x ∈ O3 ↔ ∃ k : Nat,x = (k : Int) ∧ ((Tr.E1 l k i ∨ Tr.E2 l k i) ∨ (af ≤ k ∧ k < i2 + 1 ∧ (Tr.ev l k).op = 9 ∧ (Tr.ev l k).a = aj))):=fun x => by
              rw [HE3.out,List.mem_append,List.mem_singleton,HMq.out x]
              constructor
              ·rintro (⟨k,rfl,h | h⟩ | rfl)
               ·exact ⟨k,rfl,.inl h⟩
               ·exact ⟨k,rfl,.inr ⟨h.1,by omega,h.2.2⟩⟩
               ·exact ⟨i2,rfl,.inr ⟨hfr,by omega,HYE.out⟩⟩
              ·rintro ⟨k,rfl,h | ⟨h1,h2,h3⟩⟩
               ·exact .inl ⟨k,rfl,.inl h⟩
               ·by_cases e : k = i2
                ·exact .inr (by rw [e])
                ·exact .inl ⟨k,rfl,.inr ⟨h1,by omega,h3⟩⟩
             refine HKb.out _ _ ?_
             go_wp2
             go_roundw
             case rel => exact ⟨i2 + 1,O3,_,_,ON2 + 1,by omega,HLT.out,by go_num,rfl,HL3,by omega,HO6,HM3,NE5,HB5⟩
             case measure => simp [intOf];have:=HLT.out;omega
            ·have ka2 : (a2 == aj) = false:=by simp [ha2]
             have HNO : Hid (¬ ((Tr.ev l i2).op = 9 ∧ (Tr.ev l i2).a = aj)):=by show ¬ _;rw [HEV2.out];exact fun h => ha2 h.2
             clear ho2 ha2
             refine wp_seq_k fun K8 hK8 => ?_
             have HK8:=TW.hide hK8
             clear hK8
             refine wp_region_noPanic ?_
             refine RG.wp_region_L (fun Z => True) (fun Z => Below wr.heap.size wr Z) [] (by kernel_rfl) ?_
             refine RG.wpL_any fun Yz51 hY => ?_
             have HTz51 : Hid (Below wr.heap.size wr Yz51):=by rw [hY];exact below_drewN HXq.out 1
             clear hY
             refine RG.wpL_take (fuel:=0) (a':=?Az51) [0,1,2,3,4,5,6,7,8,9,10,11,12,13,14,15] (by kernel_rfl) (by kernel_rfl) (fun _ _ _ _ _ h => h) HTz51.out (fun _ => trivial) ?rz51 ?_
             case rz51 =>
              iterate 4
               refine RG.RunsIf.weak (v:=?_) (by rfl) (by rfl) (fun Z hT => ?_) ?_
               rotate_left
               ·go_simp
                rfl
               simp only [Act.put,lpA,lpZ,lpS,lgT,lgZ,lgS]
              refine RG.RunsIf.weak (v:=.int .i64 op2) (by rfl) (by rfl) (fun Z hT => ?_) ?_
              ·have x1:=keepC hT x1;have x2:=keepC hT x2;obtain ⟨z0,z1,z2,z3,z4⟩:=cellsY5 (blk_keep NEq.out hT)
               go_simp
              simp only [Act.put,lpA,lpZ,lpS,lgT,lgZ,lgS]
              iterate 2
               refine RG.RunsIf.weak (v:=.bool true) (by rfl) (by rfl) (fun Z hT => ?_) ?_
               ·go_simp
               simp only [Act.put,lpA,lpZ,lpS,lgT,lgZ,lgS]
              iterate 4
               refine RG.RunsIf.weak (v:=?_) (by rfl) (by rfl) (fun Z hT => ?_) ?_
               rotate_left
               ·go_simp
                rfl
               simp only [Act.put,lpA,lpZ,lpS,lgT,lgZ,lgS]
              refine RG.RunsIf.weak (v:=.int .i64 a2) (by rfl) (by rfl) (fun Z hT => ?_) ?_
              ·have x1:=keepC hT x1;have x2:=keepC hT x2;obtain ⟨z0,z1,z2,z3,z4⟩:=cellsY5 (blk_keep NEq.out hT)
               go_simp
              simp only [Act.put,lpA,lpZ,lpS,lgT,lgZ,lgS]
              refine RG.RunsIf.weak (v:=?_) (by rfl) (by rfl) (fun Z hT => ?_) ?_
              rotate_left
              ·go_simp
               rfl
              simp only [Act.put,lpA,lpZ,lpS,lgT,lgZ,lgS]
              refine RG.RunsIf.weak (v:=.int .i64 aj) (by rfl) (by rfl) (fun Z hT => ?_) ?_
              ·have x1:=keepC hT x1;have x2:=keepC hT x2;obtain ⟨z0,z1,z2,z3,z4⟩:=cellsY5 (blk_keep NEq.out hT)
               go_simp
              simp only [Act.put,lpA,lpZ,lpS,lgT,lgZ,lgS]
              refine RG.RunsIf.weak (v:=.bool false) (by rfl) (by rfl) (fun Z hT => ?_) ?_
              ·go_simp
              simp only [Act.put,lpA,lpZ,lpS,lgT,lgZ,lgS]
              refine RG.RunsIf.weak (v:=.bool false) (by rfl) (by rfl) (fun Z hT => ?_) ?_
              ·(go_simp) <;> rfl
              simp only [Act.put,lpA,lpZ,lpS,lgT,lgZ,lgS]
              exact RG.RunsIf.nil
             refine RG.wpL_done (by kernel_rfl) ?_ _
             refine NoPanic.normal ?_
             refine HK8.out _ _ ?_
             clear HK8
             have NEn:=TW.hide (blk_keep NEq.out HTz51.out)
             have HBn : Hid (Below wo.heap.size wo Yz51):=HBq.out.trans (HTz51.out.mono HBq.out.size)
             have HOn:=TW.hide (own_belowI HOq.out HTz51.out)
             have HM3 : Hid (∀ x,x ∈ O2 ↔ ∃ k : Nat,x = (k : Int) ∧ ((Tr.E1 l k i ∨ Tr.E2 l k i) ∨ (af ≤ k ∧ k < i2 + 1 ∧ (Tr.ev l k).op = 9 ∧ (Tr.ev l k).a = aj))):=fun x => by
              rw [HMq.out x]
              constructor
              ·rintro ⟨k,rfl,h | h⟩
               ·exact ⟨k,rfl,.inl h⟩
               ·exact ⟨k,rfl,.inr ⟨h.1,by omega,h.2.2⟩⟩
              ·rintro ⟨k,rfl,h | ⟨h1,h2,h3⟩⟩
               ·exact ⟨k,rfl,.inl h⟩
               ·by_cases e : k = i2
                ·rw [e] at h3;exact absurd h3 HNO.out
                ·exact ⟨k,rfl,.inr ⟨h1,by omega,h3⟩⟩
             go_wp2
             refine HKb.out _ _ ?_
             go_wp2
             go_roundw
             case rel => exact ⟨i2 + 1,O2,_,_,ON2,by omega,HLT.out,by go_num,rfl,HON,by omega,HOn,HM3,NEn,HBn⟩
             case measure => simp [intOf];have:=HLT.out;omega
           ·have ko2 : (op2 == 9) = false:=by simp [ho2]
            have HNO : Hid (¬ ((Tr.ev l i2).op = 9 ∧ (Tr.ev l i2).a = aj)):=by show ¬ _;rw [HEV2.out];exact fun h => ho2 h.1
            clear ho2
            refine wp_seq_k fun K8 hK8 => ?_
            have HK8:=TW.hide hK8
            clear hK8
            refine wp_region_noPanic ?_
            refine RG.wp_region_L (fun Z => True) (fun Z => Below wr.heap.size wr Z) [] (by kernel_rfl) ?_
            refine RG.wpL_any fun Yz52 hY => ?_
            have HTz52 : Hid (Below wr.heap.size wr Yz52):=by rw [hY];exact below_drewN HXq.out 1
            clear hY
            refine RG.wpL_take (fuel:=0) (a':=?Az52) [0,1,2,3,4,5,6,7,8,9,10,11,12,13,14,15] (by kernel_rfl) (by kernel_rfl) (fun _ _ _ _ _ h => h) HTz52.out (fun _ => trivial) ?rz52 ?_
            case rz52 =>
             iterate 4
              refine RG.RunsIf.weak (v:=?_) (by rfl) (by rfl) (fun Z hT => ?_) ?_
              rotate_left
              ·go_simp
               rfl
              simp only [Act.put,lpA,lpZ,lpS,lgT,lgZ,lgS]
             refine RG.RunsIf.weak (v:=.int .i64 op2) (by rfl) (by rfl) (fun Z hT => ?_) ?_
             ·have x1:=keepC hT x1;have x2:=keepC hT x2;obtain ⟨z0,z1,z2,z3,z4⟩:=cellsY5 (blk_keep NEq.out hT)
              go_simp
             simp only [Act.put,lpA,lpZ,lpS,lgT,lgZ,lgS]
             iterate 2
              refine RG.RunsIf.weak (v:=.bool false) (by rfl) (by rfl) (fun Z hT => ?_) ?_
              ·go_simp
              simp only [Act.put,lpA,lpZ,lpS,lgT,lgZ,lgS]
             iterate 8
              refine RG.RunsIf.skip (by rfl) (by rfl) ?_
              simp only [Act.put,lpA,lpZ,lpS,lgT,lgZ,lgS]
             refine RG.RunsIf.weak (v:=.bool false) (by rfl) (by rfl) (fun Z hT => ?_) ?_
             ·(go_simp) <;> rfl
             simp only [Act.put,lpA,lpZ,lpS,lgT,lgZ,lgS]
             exact RG.RunsIf.nil
            refine RG.wpL_done (by kernel_rfl) ?_ _
            refine NoPanic.normal ?_
            refine HK8.out _ _ ?_
            clear HK8
            have NEn:=TW.hide (blk_keep NEq.out HTz52.out)
            have HBn : Hid (Below wo.heap.size wo Yz52):=HBq.out.trans (HTz52.out.mono HBq.out.size)
            have HOn:=TW.hide (own_belowI HOq.out HTz52.out)
            have HM3 : Hid (∀ x,x ∈ O2 ↔ ∃ k : Nat,x = (k : Int) ∧ ((Tr.E1 l k i ∨ Tr.E2 l k i) ∨ (af ≤ k ∧ k < i2 + 1 ∧ (Tr.ev l k).op = 9 ∧ (Tr.ev l k).a = aj))):=fun x => by
             rw [HMq.out x]
             constructor
             ·rintro ⟨k,rfl,h | h⟩
              ·exact ⟨k,rfl,.inl h⟩
              ·exact ⟨k,rfl,.inr ⟨h.1,by omega,h.2.2⟩⟩
             ·rintro ⟨k,rfl,h | ⟨h1,h2,h3⟩⟩
              ·exact ⟨k,rfl,.inl h⟩
              ·by_cases e : k = i2
               ·rw [e] at h3;exact absurd h3 HNO.out
               ·exact ⟨k,rfl,.inr ⟨h1,by omega,h3⟩⟩
            go_wp2
            refine HKb.out _ _ ?_
            go_wp2
            go_roundw
            case rel => exact ⟨i2 + 1,O2,_,_,ON2,by omega,HLT.out,by go_num,rfl,HON,by omega,HOn,HM3,NEn,HBn⟩
            case measure => simp [intOf];have:=HLT.out;omega
          ·obtain rfl : i = i2:=by omega
           have qk9 : ¬ (i : Int) < (i : Int):=by omega
           have hNR5 : NR wr oa2 O2:=by
            have h9:=HOq.out
            rw [← HON.out] at h9
            obtain ⟨a_,c_,e_,hr_⟩:=nr_own9 h9
            injection e_ with e1_ _ e3_
            subst e1_ e3_
            exact hr_
           have HL9 : Hid (O2.length ≤ 40001):=by show _ ≤ _;rw [HON.out];omega
           clear hlt2 hOi2 HOq
           have HNRq:=TW.hide hNR5
           clear hNR5
           go_wp2
           refine HK.out _ _ ?_
           clear HK
           rw [← HON.out]
           go_wp2_with fail
           refine (rrising oa2 oc2 O2 wr HNRq.out (by have:=HL9.out;omega)).mono ?_
           rintro e1 W1 ⟨⟨v1,out,rfl,h1,h2,h3,h4⟩,hb⟩
           have HR:=TW.hide (HPo.out W1 v1 out (own_low9 h1 ((HBW.out.trans (HBq.out.mono HBW.out.size))).size) h2 (fun x => by
            rw [h3 x]
            rw [HMq.out x]
            constructor
            ·rintro ⟨⟨k,rfl,h⟩,_⟩
             refine ⟨k,rfl,(Tr.eg_8 (by rw [HEVj.out];exact h8.out)).2 (h.imp id fun h => (Tr.e6_iff l _ k af (by rw [HEVj.out];exact h8.out) (by rw [HEVj.out];exact HAf.out)).2 ⟨h.1,h.2.1,h.2.2.1,by rw [HEVj.out];exact h.2.2.2⟩)⟩
            ·rintro ⟨k,rfl,h⟩
             refine ⟨⟨k,rfl,((Tr.eg_8 (by rw [HEVj.out];exact h8.out)).1 h).imp id fun h => ?_⟩,by omega⟩
             obtain ⟨g1,g2,g3,g4⟩:=(Tr.e6_iff l _ k af (by rw [HEVj.out];exact h8.out) (by rw [HEVj.out];exact HAf.out)).1 h
             exact ⟨g1,g2,g3,by rw [HEVj.out] at g4;exact g4⟩) (by have:=HL9.out;omega) (((HBW.out.trans (HBq.out.mono HBW.out.size))).trans (hb.mono ((HBW.out.trans (HBq.out.mono HBW.out.size))).size)))
           clear HPo h1 h2 h3 h4 hb
           go_wp2
           first | exact HR.out | exact ⟨rfl,HR.out⟩
      ·have k8 : (oj == 8) = false:=by simp [h8]
       by_cases h11 : oj = 11
       ·have k11 : (oj == 11) = true:=by simp [h11]
        replace h11:=TW.hide h11
        refine wp_seq_k fun K1 hK1 => ?_
        have HK1:=TW.hide hK1
        clear hK1
        go_wp2
        refine HK1.out _ _ ?_
        clear HK1
        refine wp_cond_false (by rfl) ?_
        refine wp_seq_k fun K1 hK1 => ?_
        have HK1:=TW.hide hK1
        clear hK1
        go_wp2
        refine HK1.out _ _ ?_
        clear HK1
        refine wp_cond_false (by rfl) ?_
        refine wp_seq_k fun K1 hK1 => ?_
        have HK1:=TW.hide hK1
        clear hK1
        go_wp2
        refine HK1.out _ _ ?_
        clear HK1
        refine wp_cond_false (by rfl) ?_
        refine wp_seq_k fun K1 hK1 => ?_
        have HK1:=TW.hide hK1
        clear hK1
        go_wp2
        refine HK1.out _ _ ?_
        clear HK1
        refine wp_cond_false (by rfl) ?_
        refine wp_seq_k fun K1 hK1 => ?_
        have HK1:=TW.hide hK1
        clear hK1
        go_wp2
        refine HK1.out _ _ ?_
        clear HK1
        refine wp_cond_true (by rfl) ?_
        have HOl:=TW.hide hOl
        have HO0:=TW.hide hO
        have HM0:=TW.hide hMe
        have HW0:=TW.hide hW
        clear hO hMe hW hNR h1
        generalize hON : O.length = ON at *
        have HON0:=TW.hide hON
        clear hON
        go_wp2
        go_loopw [8,17] (fun ov iv wr => ∃ (i2 : Nat) (O2 : List Int) (oa2 : Option Addr) (oc2 ON2 : Nat),0 ≤ i2 ∧ i2 ≤ i ∧ iv = .int .i64 (i2 : Int) ∧ ov = .slice oa2 ON2 oc2 ∧ Hid (O2.length = ON2) ∧ ON2 ≤ i2 + 1 ∧ Hid (wr.ownsRow wo.heap.size 3 1 (.slice oa2 ON2 oc2) ON2 (O2.map (Value.int .i64))) ∧ Hid (∀ x,x ∈ O2 ↔ ∃ k : Nat,x = (k : Int) ∧ ((Tr.E1 l k i ∨ Tr.E2 l k i) ∨ (0 ≤ k ∧ k < i2 ∧ (Tr.ev l k).op = 10 ∧ (Tr.ev l k).a = aj))) ∧ Hid (wr.heap[ge]? = some (.cells #[.int .i64 (wj : Int),.int .i64 oj,.int .i64 aj,.int .i64 vj,.bool sj] 65 (0,0))) ∧ Hid (Below wo.heap.size wo wr)) (fun ov iv wr => i - (intOf iv).toNat)
        case atStart => exact ⟨0,O,oa,oc,ON,Nat.le_refl _,Nat.zero_le _,rfl,rfl,HON0,by have:=HOl.out;omega,HO0,TW.hide (fun x => by
          rw [HM0.out x]
          constructor
          ·rintro ⟨k,rfl,h⟩;exact ⟨k,rfl,.inl h⟩
          ·rintro ⟨k,rfl,h | h⟩
           ·exact ⟨k,rfl,h⟩
           ·have:=h.1;have:=h.2.1;omega),hNE,HW0⟩
        case round =>
         obtain ⟨i2,O2,oa2,oc2,ON2,hfr,hi2,rfl,rfl,HON,hOi2,HOq,HMq,NEq,HBq⟩:=hrel
         have hi40 : i ≤ 40000:=by have:=HJl.out;have:=HLn.out;omega
         clear HO0 HM0 HW0 hNE HON0
         by_cases hlt2 : i2 < i
         ·obtain ⟨b2,o2,who2,op2,a2,va2,sh2,hla4,hev2,_,_,_,_,x0,x1,x2,x3,x4⟩:=(HEw.out.below (HBW.out.trans (HBq.out.mono HBW.out.size))).get i2 (by have:=HJl.out;omega)
          injection hla4 with hla4
          injection hla4 with hla5 hla6
          subst hla5 hla6
          have HEV2:=TW.hide hev2
          have qk1 : (i2 : Int) < (i : Int):=by omega
          have qk2 : (i2 : Int) < (l.length : Int):=by have:=HJl.out;omega
          have qk0 : (0 : Int) ≤ (i2 : Int):=by omega
          have qk4 : i2 + 1 ≤ 40000:=by have:=HJl.out;have:=HLn.out;omega
          have HLT:=TW.hide hlt2
          have HXq : Hid (Below wr.heap.size wr wr):=Below.refl _ _
          clear hev2 hlt2 x0 x3 x4
          refine wp_seq_k fun K1 hK1 => ?_
          have HK1:=TW.hide hK1
          clear hK1
          go_wp2
          refine HK1.out _ _ ?_
          clear HK1
          refine wp_seq_k fun Kb hKb => ?_
          have HKb:=TW.hide hKb
          clear hKb
          refine wp_block ?_
          by_cases ho2 : op2 = 10
          ·have ko2 : (op2 == 10) = true:=by simp [ho2]
           by_cases ha2 : a2 = aj
           ·have ka2 : (a2 == aj) = true:=by simp [ha2]
            have HYE : Hid ((Tr.ev l i2).op = 10 ∧ (Tr.ev l i2).a = aj):=by show _ ∧ _;rw [HEV2.out];exact ⟨ho2,ha2⟩
            clear ho2 ha2
            refine wp_seq_k fun K8 hK8 => ?_
            have HK8:=TW.hide hK8
            clear hK8
            refine wp_region_noPanic ?_
            refine RG.wp_region_L (fun Z => True) (fun Z => Below wr.heap.size wr Z) [] (by kernel_rfl) ?_
            refine RG.wpL_any fun Yz44 hY => ?_
            have HTz44 : Hid (Below wr.heap.size wr Yz44):=by rw [hY];exact below_drewN HXq.out 1
            clear hY
            refine RG.wpL_take (fuel:=0) (a':=?Az44) [0,1,2,3,4,5,6,7,8,9,10,11,12,13,14,15] (by kernel_rfl) (by kernel_rfl) (fun _ _ _ _ _ h => h) HTz44.out (fun _ => trivial) ?rz44 ?_
            case rz44 =>
             iterate 4
              refine RG.RunsIf.weak (v:=?_) (by rfl) (by rfl) (fun Z hT => ?_) ?_
              rotate_left
              ·go_simp
               rfl
              simp only [Act.put,lpA,lpZ,lpS,lgT,lgZ,lgS]
             refine RG.RunsIf.weak (v:=.int .i64 op2) (by rfl) (by rfl) (fun Z hT => ?_) ?_
             ·have x1:=keepC hT x1;have x2:=keepC hT x2;obtain ⟨z0,z1,z2,z3,z4⟩:=cellsY5 (blk_keep NEq.out hT)
              go_simp
             simp only [Act.put,lpA,lpZ,lpS,lgT,lgZ,lgS]
             iterate 2
              refine RG.RunsIf.weak (v:=.bool true) (by rfl) (by rfl) (fun Z hT => ?_) ?_
              ·go_simp
              simp only [Act.put,lpA,lpZ,lpS,lgT,lgZ,lgS]
             iterate 4
              refine RG.RunsIf.weak (v:=?_) (by rfl) (by rfl) (fun Z hT => ?_) ?_
              rotate_left
              ·go_simp
               rfl
              simp only [Act.put,lpA,lpZ,lpS,lgT,lgZ,lgS]
             refine RG.RunsIf.weak (v:=.int .i64 a2) (by rfl) (by rfl) (fun Z hT => ?_) ?_
             ·have x1:=keepC hT x1;have x2:=keepC hT x2;obtain ⟨z0,z1,z2,z3,z4⟩:=cellsY5 (blk_keep NEq.out hT)
              go_simp
             simp only [Act.put,lpA,lpZ,lpS,lgT,lgZ,lgS]
             refine RG.RunsIf.weak (v:=?_) (by rfl) (by rfl) (fun Z hT => ?_) ?_
             rotate_left
             ·go_simp
              rfl
             simp only [Act.put,lpA,lpZ,lpS,lgT,lgZ,lgS]
             refine RG.RunsIf.weak (v:=.int .i64 aj) (by rfl) (by rfl) (fun Z hT => ?_) ?_
             ·have x1:=keepC hT x1;have x2:=keepC hT x2;obtain ⟨z0,z1,z2,z3,z4⟩:=cellsY5 (blk_keep NEq.out hT)
              go_simp
             simp only [Act.put,lpA,lpZ,lpS,lgT,lgZ,lgS]
             refine RG.RunsIf.weak (v:=.bool true) (by rfl) (by rfl) (fun Z hT => ?_) ?_
             ·go_simp
             simp only [Act.put,lpA,lpZ,lpS,lgT,lgZ,lgS]
             refine RG.RunsIf.weak (v:=.bool true) (by rfl) (by rfl) (fun Z hT => ?_) ?_
             ·(go_simp) <;> rfl
             simp only [Act.put,lpA,lpZ,lpS,lgT,lgZ,lgS]
             exact RG.RunsIf.nil
            refine RG.wpL_done (by kernel_rfl) ?_ _
            refine NoPanic.normal ?_
            refine HK8.out _ _ ?_
            clear HK8
            have NEn:=TW.hide (blk_keep NEq.out HTz44.out)
            have HBn : Hid (Below wo.heap.size wo Yz44):=HBq.out.trans (HTz44.out.mono HBq.out.size)
            have HOn:=TW.hide (own_belowI HOq.out HTz44.out)
            go_wp2_with (at_builtin;refine wpList_append_own _ rfl _ _ 23 rfl wo.heap.size 3 i3 (.int .i64 0) 1 8 Try.underlying23 hi3 hz30 hz31 hz32 rfl (by decide) _ ON2 (O2.map (Value.int .i64)) rfl (HOn.out.alloc _) ⟨Yz44.heap.size,0,none⟩ 1 1 [.int .i64 (i2 : Int)] rfl rfl (cell_one_new _ _ _) (by simp [Value.oneCell']) (by unfold maxLen;omega) (by omega) (by have:=HBn.out.size;simp;omega) ?_;(intro v5 w5 hown' hgrow _);have HG5:=TW.hide hgrow;obtain ⟨a5,c5,rfl⟩:=own_openE hown';have HO5:=TW.hide hown';clear hown' hgrow)
            have HB5 : Hid (Below wo.heap.size wo w5):=(HBn.out.alloc HBn.out.size _).grown HG5.out (by have:=HBn.out.size;simp;omega) (fun q hq => own_blkI HOn.out q hq)
            have hO6 : w5.ownsRow wo.heap.size 3 1 (.slice a5 (ON2 + 1) c5) (ON2 + 1) ((O2 ++ [(i2 : Int)]).map (Value.int .i64)):=by
             rw [List.map_append]
             exact HO5.out
            have NE5 : Hid (w5.heap[ge]? = some (.cells #[.int .i64 (wj : Int),.int .i64 oj,.int .i64 aj,.int .i64 vj,.bool sj] 65 (0,0))):=TW.hide (by rw [HG5.out.block ge (by have:=blk_lt NEn.out;simp;omega) (fun e => absurd (own_blkI HOn.out ge e.symm) (by have:=blk_lt NE.out;omega))];exact blk_alloc NEn.out)
            clear HG5 HO5 HOn HBn NEn
            obtain ⟨O3,hO3⟩ : ∃ o,o = O2 ++ [(i2 : Int)]:=⟨_,rfl⟩
            have HL3 : Hid (O3.length = ON2 + 1):=by show _ = _;rw [hO3,List.length_append,HON.out];rfl
            rw [← hO3] at hO6
            have HO6:=TW.hide hO6
            have HE3:=TW.hide hO3
            clear hO6 hO3
            have HM3 : Hid (∀ x,x ∈ O3 ↔ ∃ k : Nat,x = (k : Int) ∧ ((Tr.E1 l k i ∨ Tr.E2 l k i) ∨ (0 ≤ k ∧ k < i2 + 1 ∧ (Tr.ev l k).op = 10 ∧ (Tr.ev l k).a = aj))):=fun x => by
             rw [HE3.out,List.mem_append,List.mem_singleton,HMq.out x]
             constructor
             ·rintro (⟨k,rfl,h | h⟩ | rfl)
              ·exact ⟨k,rfl,.inl h⟩
              ·exact ⟨k,rfl,.inr ⟨h.1,by omega,h.2.2⟩⟩
              ·exact ⟨i2,rfl,.inr ⟨hfr,by omega,HYE.out⟩⟩
             ·rintro ⟨k,rfl,h | ⟨h1,h2,h3⟩⟩
              ·exact .inl ⟨k,rfl,.inl h⟩
              ·by_cases e : k = i2
               ·exact .inr (by rw [e])
               ·exact .inl ⟨k,rfl,.inr ⟨h1,by omega,h3⟩⟩
            refine HKb.out _ _ ?_
            go_wp2
            go_roundw
            case rel => exact ⟨i2 + 1,O3,_,_,ON2 + 1,by omega,HLT.out,by go_num,rfl,HL3,by omega,HO6,HM3,NE5,HB5⟩
            case measure => simp [intOf];have:=HLT.out;omega
           ·have ka2 : (a2 == aj) = false:=by simp [ha2]
            have HNO : Hid (¬ ((Tr.ev l i2).op = 10 ∧ (Tr.ev l i2).a = aj)):=by show ¬ _;rw [HEV2.out];exact fun h => ha2 h.2
            clear ho2 ha2
            refine wp_seq_k fun K8 hK8 => ?_
            have HK8:=TW.hide hK8
            clear hK8
            refine wp_region_noPanic ?_
            refine RG.wp_region_L (fun Z => True) (fun Z => Below wr.heap.size wr Z) [] (by kernel_rfl) ?_
            refine RG.wpL_any fun Yz45 hY => ?_
            have HTz45 : Hid (Below wr.heap.size wr Yz45):=by rw [hY];exact below_drewN HXq.out 1
            clear hY
            refine RG.wpL_take (fuel:=0) (a':=?Az45) [0,1,2,3,4,5,6,7,8,9,10,11,12,13,14,15] (by kernel_rfl) (by kernel_rfl) (fun _ _ _ _ _ h => h) HTz45.out (fun _ => trivial) ?rz45 ?_
            case rz45 =>
             iterate 4
              refine RG.RunsIf.weak (v:=?_) (by rfl) (by rfl) (fun Z hT => ?_) ?_
              rotate_left
              ·go_simp
               rfl
              simp only [Act.put,lpA,lpZ,lpS,lgT,lgZ,lgS]
             refine RG.RunsIf.weak (v:=.int .i64 op2) (by rfl) (by rfl) (fun Z hT => ?_) ?_
             ·have x1:=keepC hT x1;have x2:=keepC hT x2;obtain ⟨z0,z1,z2,z3,z4⟩:=cellsY5 (blk_keep NEq.out hT)
              go_simp
             simp only [Act.put,lpA,lpZ,lpS,lgT,lgZ,lgS]
             iterate 2
              refine RG.RunsIf.weak (v:=.bool true) (by rfl) (by rfl) (fun Z hT => ?_) ?_
              ·go_simp
              simp only [Act.put,lpA,lpZ,lpS,lgT,lgZ,lgS]
             iterate 4
              refine RG.RunsIf.weak (v:=?_) (by rfl) (by rfl) (fun Z hT => ?_) ?_
              rotate_left
              ·go_simp
               rfl
              simp only [Act.put,lpA,lpZ,lpS,lgT,lgZ,lgS]
             refine RG.RunsIf.weak (v:=.int .i64 a2) (by rfl) (by rfl) (fun Z hT => ?_) ?_
             ·have x1:=keepC hT x1;have x2:=keepC hT x2;obtain ⟨z0,z1,z2,z3,z4⟩:=cellsY5 (blk_keep NEq.out hT)
              go_simp
             simp only [Act.put,lpA,lpZ,lpS,lgT,lgZ,lgS]
             refine RG.RunsIf.weak (v:=?_) (by rfl) (by rfl) (fun Z hT => ?_) ?_
             rotate_left
             ·go_simp
              rfl
             simp only [Act.put,lpA,lpZ,lpS,lgT,lgZ,lgS]
             refine RG.RunsIf.weak (v:=.int .i64 aj) (by rfl) (by rfl) (fun Z hT => ?_) ?_
             ·have x1:=keepC hT x1;have x2:=keepC hT x2;obtain ⟨z0,z1,z2,z3,z4⟩:=cellsY5 (blk_keep NEq.out hT)
              go_simp
             simp only [Act.put,lpA,lpZ,lpS,lgT,lgZ,lgS]
             refine RG.RunsIf.weak (v:=.bool false) (by rfl) (by rfl) (fun Z hT => ?_) ?_
             ·go_simp
             simp only [Act.put,lpA,lpZ,lpS,lgT,lgZ,lgS]
             refine RG.RunsIf.weak (v:=.bool false) (by rfl) (by rfl) (fun Z hT => ?_) ?_
             ·(go_simp) <;> rfl
             simp only [Act.put,lpA,lpZ,lpS,lgT,lgZ,lgS]
             exact RG.RunsIf.nil
            refine RG.wpL_done (by kernel_rfl) ?_ _
            refine NoPanic.normal ?_
            refine HK8.out _ _ ?_
            clear HK8
            have NEn:=TW.hide (blk_keep NEq.out HTz45.out)
            have HBn : Hid (Below wo.heap.size wo Yz45):=HBq.out.trans (HTz45.out.mono HBq.out.size)
            have HOn:=TW.hide (own_belowI HOq.out HTz45.out)
            have HM3 : Hid (∀ x,x ∈ O2 ↔ ∃ k : Nat,x = (k : Int) ∧ ((Tr.E1 l k i ∨ Tr.E2 l k i) ∨ (0 ≤ k ∧ k < i2 + 1 ∧ (Tr.ev l k).op = 10 ∧ (Tr.ev l k).a = aj))):=fun x => by
             rw [HMq.out x]
             constructor
             ·rintro ⟨k,rfl,h | h⟩
              ·exact ⟨k,rfl,.inl h⟩
              ·exact ⟨k,rfl,.inr ⟨h.1,by omega,h.2.2⟩⟩
             ·rintro ⟨k,rfl,h | ⟨h1,h2,h3⟩⟩
              ·exact ⟨k,rfl,.inl h⟩
              ·by_cases e : k = i2
               ·rw [e] at h3;exact absurd h3 HNO.out
               ·exact ⟨k,rfl,.inr ⟨h1,by omega,h3⟩⟩
            go_wp2
            refine HKb.out _ _ ?_
            go_wp2
            go_roundw
            case rel => exact ⟨i2 + 1,O2,_,_,ON2,by omega,HLT.out,by go_num,rfl,HON,by omega,HOn,HM3,NEn,HBn⟩
            case measure => simp [intOf];have:=HLT.out;omega
          ·have ko2 : (op2 == 10) = false:=by simp [ho2]
           have HNO : Hid (¬ ((Tr.ev l i2).op = 10 ∧ (Tr.ev l i2).a = aj)):=by show ¬ _;rw [HEV2.out];exact fun h => ho2 h.1
           clear ho2
           refine wp_seq_k fun K8 hK8 => ?_
           have HK8:=TW.hide hK8
           clear hK8
           refine wp_region_noPanic ?_
           refine RG.wp_region_L (fun Z => True) (fun Z => Below wr.heap.size wr Z) [] (by kernel_rfl) ?_
           refine RG.wpL_any fun Yz46 hY => ?_
           have HTz46 : Hid (Below wr.heap.size wr Yz46):=by rw [hY];exact below_drewN HXq.out 1
           clear hY
           refine RG.wpL_take (fuel:=0) (a':=?Az46) [0,1,2,3,4,5,6,7,8,9,10,11,12,13,14,15] (by kernel_rfl) (by kernel_rfl) (fun _ _ _ _ _ h => h) HTz46.out (fun _ => trivial) ?rz46 ?_
           case rz46 =>
            iterate 4
             refine RG.RunsIf.weak (v:=?_) (by rfl) (by rfl) (fun Z hT => ?_) ?_
             rotate_left
             ·go_simp
              rfl
             simp only [Act.put,lpA,lpZ,lpS,lgT,lgZ,lgS]
            refine RG.RunsIf.weak (v:=.int .i64 op2) (by rfl) (by rfl) (fun Z hT => ?_) ?_
            ·have x1:=keepC hT x1;have x2:=keepC hT x2;obtain ⟨z0,z1,z2,z3,z4⟩:=cellsY5 (blk_keep NEq.out hT)
             go_simp
            simp only [Act.put,lpA,lpZ,lpS,lgT,lgZ,lgS]
            iterate 2
             refine RG.RunsIf.weak (v:=.bool false) (by rfl) (by rfl) (fun Z hT => ?_) ?_
             ·go_simp
             simp only [Act.put,lpA,lpZ,lpS,lgT,lgZ,lgS]
            iterate 8
             refine RG.RunsIf.skip (by rfl) (by rfl) ?_
             simp only [Act.put,lpA,lpZ,lpS,lgT,lgZ,lgS]
            refine RG.RunsIf.weak (v:=.bool false) (by rfl) (by rfl) (fun Z hT => ?_) ?_
            ·(go_simp) <;> rfl
            simp only [Act.put,lpA,lpZ,lpS,lgT,lgZ,lgS]
            exact RG.RunsIf.nil
           refine RG.wpL_done (by kernel_rfl) ?_ _
           refine NoPanic.normal ?_
           refine HK8.out _ _ ?_
           clear HK8
           have NEn:=TW.hide (blk_keep NEq.out HTz46.out)
           have HBn : Hid (Below wo.heap.size wo Yz46):=HBq.out.trans (HTz46.out.mono HBq.out.size)
           have HOn:=TW.hide (own_belowI HOq.out HTz46.out)
           have HM3 : Hid (∀ x,x ∈ O2 ↔ ∃ k : Nat,x = (k : Int) ∧ ((Tr.E1 l k i ∨ Tr.E2 l k i) ∨ (0 ≤ k ∧ k < i2 + 1 ∧ (Tr.ev l k).op = 10 ∧ (Tr.ev l k).a = aj))):=fun x => by
            rw [HMq.out x]
            constructor
            ·rintro ⟨k,rfl,h | h⟩
             ·exact ⟨k,rfl,.inl h⟩
             ·exact ⟨k,rfl,.inr ⟨h.1,by omega,h.2.2⟩⟩
            ·rintro ⟨k,rfl,h | ⟨h1,h2,h3⟩⟩
             ·exact ⟨k,rfl,.inl h⟩
             ·by_cases e : k = i2
              ·rw [e] at h3;exact absurd h3 HNO.out
              ·exact ⟨k,rfl,.inr ⟨h1,by omega,h3⟩⟩
           go_wp2
           refine HKb.out _ _ ?_
           go_wp2
           go_roundw
           case rel => exact ⟨i2 + 1,O2,_,_,ON2,by omega,HLT.out,by go_num,rfl,HON,by omega,HOn,HM3,NEn,HBn⟩
           case measure => simp [intOf];have:=HLT.out;omega
         ·obtain rfl : i = i2:=by omega
          have qk9 : ¬ (i : Int) < (i : Int):=by omega
          have hNR5 : NR wr oa2 O2:=by
           have h9:=HOq.out
           rw [← HON.out] at h9
           obtain ⟨a_,c_,e_,hr_⟩:=nr_own9 h9
           injection e_ with e1_ _ e3_
           subst e1_ e3_
           exact hr_
          have HL9 : Hid (O2.length ≤ 40001):=by show _ ≤ _;rw [HON.out];omega
          clear hlt2 hOi2 HOq
          have HNRq:=TW.hide hNR5
          clear hNR5
          go_wp2
          refine HK.out _ _ ?_
          clear HK
          rw [← HON.out]
          go_wp2_with fail
          refine (rrising oa2 oc2 O2 wr HNRq.out (by have:=HL9.out;omega)).mono ?_
          rintro e1 W1 ⟨⟨v1,out,rfl,h1,h2,h3,h4⟩,hb⟩
          have HR:=TW.hide (HPo.out W1 v1 out (own_low9 h1 ((HBW.out.trans (HBq.out.mono HBW.out.size))).size) h2 (fun x => by
           rw [h3 x]
           rw [HMq.out x]
           constructor
           ·rintro ⟨⟨k,rfl,h⟩,_⟩
            refine ⟨k,rfl,(Tr.eg_11 (by rw [HEVj.out];exact h11.out)).2 (h.imp id fun h => ?_)⟩
            exact ⟨h.2.1,by rw [HEVj.out];exact h11.out,h.2.2.1,by rw [HEVj.out];exact h.2.2.2⟩
           ·rintro ⟨k,rfl,h⟩
            refine ⟨⟨k,rfl,((Tr.eg_11 (by rw [HEVj.out];exact h11.out)).1 h).imp id fun h => ?_⟩,by omega⟩
            exact ⟨Nat.zero_le _,h.1,h.2.2.1,by have:=h.2.2.2;rw [HEVj.out] at this;exact this⟩) (by have:=HL9.out;omega) (((HBW.out.trans (HBq.out.mono HBW.out.size))).trans (hb.mono ((HBW.out.trans (HBq.out.mono HBW.out.size))).size)))
          clear HPo h1 h2 h3 h4 hb
          go_wp2
          first | exact HR.out | exact ⟨rfl,HR.out⟩
       ·have k11 : (oj == 11) = false:=by simp [h11]
        go_wp2
        refine HK.out _ _ ?_
        clear HK
        go_wp2_with fail
        refine (rrising oa oc O W hNR (by have:=hOl;omega)).mono ?_
        rintro e1 W1 ⟨⟨v1,out,rfl,h1,h2,h3,h4⟩,hb⟩
        have HR:=TW.hide (HPo.out W1 v1 out (own_low9 h1 ((HBW.out.trans (hW.mono HBW.out.size))).size) h2 (fun x => by
         rw [h3 x]
         rw [hMe x]
         constructor
         ·rintro ⟨⟨k,rfl,h⟩,_⟩
          exact ⟨k,rfl,(Tr.eg_none (by rw [HEVj.out];exact h5) (by rw [HEVj.out];exact h6) (by rw [HEVj.out];exact h8) (by rw [HEVj.out];exact h11)).2 h⟩
         ·rintro ⟨k,rfl,h⟩
          exact ⟨⟨k,rfl,(Tr.eg_none (by rw [HEVj.out];exact h5) (by rw [HEVj.out];exact h6) (by rw [HEVj.out];exact h8) (by rw [HEVj.out];exact h11)).1 h⟩,by omega⟩) (by have:=hOl;omega) (((HBW.out.trans (hW.mono HBW.out.size))).trans (hb.mono ((HBW.out.trans (hW.mono HBW.out.size))).size)))
        clear HPo h1 h2 h3 h4 hb
        go_wp2
        first | exact HR.out | exact ⟨rfl,HR.out⟩
   rw [ha0] at hR
   simp only [Act.put,lpA,lpZ,lpS] at hR
   rw [ha0]
   clear ha0
   have HR:=TW.hide hR
   clear hR HK
   have h12:=TW.hide (HLa.out.e12 HGd.out HJl.out)
   clear HLa
   by_cases hl0 : 0 ≤ la
   ·have HMe : Hid (∀ x,x ∈ [la] ↔ ∃ k : Nat,x = (k : Int) ∧ (Tr.E1 l k i ∨ Tr.E2 l k i)):=fun x => by
     rw [← h12.out x,List.mem_singleton]
     constructor
     ·rintro rfl
      exact ⟨hl0,.inl ⟨hl0,rfl⟩⟩
     ·rintro ⟨_,h | h⟩
      ·exact h.2
      ·omega
    clear h12
    go_wp2_with (at_builtin;refine wpList_append_own _ rfl _ _ 23 rfl wr.heap.size 3 i3 (.int .i64 0) 1 8 Try.underlying23 hi3 hz30 hz31 hz32 rfl (by decide) _ 0 [] rfl (World.ownsRow_nil _ _ _ _) ⟨wr.heap.size,0,none⟩ 1 1 [.int .i64 la] rfl rfl (cell_one_new _ _ _) (by simp [Value.oneCell']) (by unfold maxLen;omega) (by omega) (by simp) ?_;(intro v5 w5 hown' hgrow _);have HG5:=TW.hide hgrow;have HO5:=TW.hide hown';clear hown' hgrow)
    exact HR.out _ _ _ _ _ _ _ _ _ _ _ _ _ _ [la] (((Below.refl wr.heap.size wr).alloc (Nat.le_refl _) _).grown HG5.out (by simp) (fun q hq => by cases hq)) HO5.out HMe.out (by simp)
   ·have hl1 : la < 0:=by omega
    by_cases hb0 : 0 ≤ bo
    ·have HMe : Hid (∀ x,x ∈ [bo] ↔ ∃ k : Nat,x = (k : Int) ∧ (Tr.E1 l k i ∨ Tr.E2 l k i)):=fun x => by
      rw [← h12.out x,List.mem_singleton]
      constructor
      ·rintro rfl
       exact ⟨hb0,.inr ⟨hl1,rfl⟩⟩
      ·rintro ⟨_,h | h⟩
       ·omega
       ·exact h.2
     clear h12
     go_wp2_with (at_builtin;refine wpList_append_own _ rfl _ _ 23 rfl wr.heap.size 3 i3 (.int .i64 0) 1 8 Try.underlying23 hi3 hz30 hz31 hz32 rfl (by decide) _ 0 [] rfl (World.ownsRow_nil _ _ _ _) ⟨wr.heap.size,0,none⟩ 1 1 [.int .i64 bo] rfl rfl (cell_one_new _ _ _) (by simp [Value.oneCell']) (by unfold maxLen;omega) (by omega) (by simp) ?_;(intro v5 w5 hown' hgrow _);have HG5:=TW.hide hgrow;have HO5:=TW.hide hown';clear hown' hgrow)
     exact HR.out _ _ _ _ _ _ _ _ _ _ _ _ _ _ [bo] (((Below.refl wr.heap.size wr).alloc (Nat.le_refl _) _).grown HG5.out (by simp) (fun q hq => by cases hq)) HO5.out HMe.out (by simp)
    ·have hb1 : bo < 0:=by omega
     have HMe : Hid (∀ x,x ∈ ([] : List Int) ↔ ∃ k : Nat,x = (k : Int) ∧ (Tr.E1 l k i ∨ Tr.E2 l k i)):=fun x => by
      rw [← h12.out x]
      constructor
      ·intro h;cases h
      ·rintro ⟨_,h | h⟩ <;> omega
     clear h12
     go_wp2
     exact HR.out _ _ _ _ _ _ _ _ _ _ _ _ _ _ [] (Below.refl _ _) (World.ownsRow_nil _ _ _ _) HMe.out (by simp)
end LW
end Go.Proofs.Ythcndgnpmefefaa
