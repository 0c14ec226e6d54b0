/-
  Ck5, Ck6 in one.
-/
import Derived.Test.YtfbnakmmmphedaaCkAo
import Derived.Test.YtfbnakmmmphedaaOrdero
set_option linter.unusedVariables false
set_option linter.unusedSimpArgs false
namespace Go.Proofs.Ytfbnakmmmphedaa
open Go.RowKit
namespace LW
open Mc
def EgR (W : World) (a : Option Addr) (c : Nat) (es : List Eg2) : Prop:=es.length ≤ c ∧ (es = [] ∨ ∃ b off,a = some ⟨b,off,none⟩ ∧ ∀ i,i < es.length → W.cell? ⟨b,off + i * 2,none⟩ = some (.int .i64 (es.getD i (0,0)).1) ∧ W.cell? ⟨b,off + i * 2 + 1,none⟩ = some (.int .i64 (es.getD i (0,0)).2))
theorem EgR.below {W W' : World} {a : Option Addr} {c : Nat} {es : List Eg2} (h : EgR W a c es) (hb : Below W.heap.size W W') : EgR W' a c es:=by
 refine ⟨h.1,?_⟩
 rcases h.2 with h1 | ⟨b,off,e,h1⟩
 ·exact .inl h1
 ·exact .inr ⟨b,off,e,fun i hi => ⟨keepC hb (h1 i hi).1,keepC hb (h1 i hi).2⟩⟩
theorem EgR.of {W : World} {B : Nat} {v : Value} {es : List Eg2} (h : W.ownsRow B 109 2 v es.length (edC es)) : ∃ a c,v = .slice a es.length c ∧ EgR W a c es:=by
 by_cases h0 : es.length = 0
 ·obtain ⟨a,c,e⟩:=own_openE h
  exact ⟨a,c,e,by omega,.inl (List.eq_nil_of_length_eq_zero h0)⟩
 ·obtain ⟨g,cap,e,_,hN,_,hc⟩:=CI.of h (by omega)
  exact ⟨_,cap,e,hN,.inr ⟨g,0,rfl,fun i hi => by rw [Nat.zero_add];exact hc.get hN i hi⟩⟩
theorem EgR.head {W : World} {a : Option Addr} {c : Nat} {x : Eg2} {es : List Eg2} (h : EgR W a c (x :: es)) : ∃ b off,a = some ⟨b,off,none⟩ ∧ es.length + 1 ≤ c ∧ W.cell? ⟨b,off,none⟩ = some (.int .i64 x.1) ∧ W.cell? ⟨b,off + 1,none⟩ = some (.int .i64 x.2):=by
 have hl:=h.1
 simp only [List.length_cons] at hl
 rcases h.2 with h1 | ⟨b,off,e,h1⟩
 ·cases h1
 ·have:=h1 0 (by simp)
  rw [Nat.zero_mul,Nat.add_zero] at this;exact ⟨b,off,e,hl,this.1,this.2⟩
theorem EgR.tail {W : World} {b off c : Nat} {x : Eg2} {es : List Eg2} (h : EgR W (some ⟨b,off,none⟩) c (x :: es)) : EgR W (if c = 1 then some ⟨b,off,none⟩ else some ⟨b,off + 2,none⟩) (c - 1) es:=by
 have hl:=h.1
 simp only [List.length_cons] at hl
 refine ⟨by omega,?_⟩
 by_cases h0 : es = []
 ·exact .inl h0
 ·have hp:=List.length_pos_iff.2 h0
  rw [if_neg (by omega)]
  rcases h.2 with h1 | ⟨b',off',e,h1⟩
  ·cases h1
  ·injection e with e
   injection e with e1 e2
   subst e1 e2;refine .inr ⟨b,off + 2,rfl,fun i hi => ?_⟩
   have:=h1 (i + 1) (by simp;omega)
   rw [show off + (i + 1) * 2 = off + 2 + i * 2 by omega,List.getD_cons_succ] at this
   exact this
def CkQ (w : World) (s : Syst) (l : List Ev) (f m : Nat) : Ending → World → Prop:=fun e w' => ∃ o G ag hs v,e = .returned (v Oc.li) ∧ w.heap.size ≤ o.heap.size ∧ CM o w' G l.length (fun j => if j < l.length then clL s l f m j else []) ag hs v ∧ Below w.heap.size w w'
theorem cellsY2 {w : World} {b : Nat} {t : TypeId} {v0 v1 : Value} (h : w.heap[b]? = some (.cells #[v0,v1] t (0,0))) : w.cell? ⟨b,0,none⟩ = some v0 ∧ w.cell? ⟨b,1,none⟩ = some v1:=by
 refine ⟨?_,?_⟩ <;> (rw [cell_of_row w b _ _ t (0,0) h];rfl)
set_option maxRecDepth 100000 in
set_option maxHeartbeats 4000000 in
theorem pplace (f m : Nat) (who : Int) (w : World) (h1 : 0 ≤ who) (h2 : who ≤ 1000000) (hf : f ≤ 1000000) : Calls Try.prog 47 #[.agg #[.int .i64 (f : Int),.int .i64 (m : Int)],.int .i64 who] w fun e w' => e = .returned (.tuple #[.int .i64 (who - f),.bool (decide (0 ≤ who - (f : Int) ∧ who - (f : Int) < m))]) ∧ Below w.heap.size w w':=by
 have q1 : IntKind.i64.wrap (who - (f : Int)) = who - f:=by rw [IntKind.wrap_i64];omega
 have hA : Below w.heap.size w (w.alloc (.cells #[.int .i64 (f : Int),.int .i64 (m : Int)] 94)):=(Below.refl _ _).alloc (Nat.le_refl _) _
 have N1 : Hid ((w.alloc (.cells #[.int .i64 (f : Int),.int .i64 (m : Int)] 94)).heap[w.heap.size]? = some (.cells #[.int .i64 (f : Int),.int .i64 (m : Int)] 94 (0,0))):=heap_alloc_new w _
 have NB:=ζ hA
 clear hA
 go_enter Try.func47,Try.ntmps47
 refine wp_seq_k fun K hK => ?_
 have HK:=ζ hK
 clear hK
 go_wp2
 refine HK.out _ _ ?_
 clear HK K
 generalize w.alloc _ = X at *
 obtain ⟨c0,c1⟩:=cellsY2 N1.out
 refine wp_seq_k fun K hK => ?_
 have HK:=ζ hK
 clear hK
 go_wp2
 refine HK.out _ _ ?_
 clear HK K
 have HX : Hid (Below X.heap.size X X):=Below.refl _ _
 obtain ⟨d,hd⟩ : ∃ d,who - (f : Int) = d:=⟨_,rfl⟩
 rw [hd]
 clear q1 c0 c1 h1 h2 hd
 by_cases h3 : 0 ≤ d
 ·by_cases h4 : d < (m : Int)
  ·refine wp_seq_k fun K hK => ?_
   have HK:=ζ hK
   clear hK;refine wp_region_noPanic ?_
   refine RG.wp_region_L (fun Z => True) (fun Z => Below X.heap.size X Z) [] (by kernel_rfl) ?_
   refine RG.wpL_any fun Ya hY => ?_
   have HTa : Hid (Below X.heap.size X Ya):=by rw [hY];exact below_drewN HX.out 1
   clear hY;refine RG.wpL_take (fuel:=0) (a':=?Aa) [0,1,2,3,4,5,6,7,8,9,10] (by kernel_rfl) (by kernel_rfl) (fun _ _ _ _ _ h => h) HTa.out (fun _ => trivial) ?ra ?_
   case ra =>
    iterate 2
     refine RG.rW ?_ (fun Z hT => ?_) ?_
     rotate_left
     ·go_simp
      rfl
     simp only [Act.put,lA,lB,lC,lD,lE,lF]
    iterate 2
     refine RG.rW (.bool true) (fun Z hT => ?_) ?_
     ·go_simp
     simp only [Act.put,lA,lB,lC,lD,lE,lF]
    iterate 2
     refine RG.rW ?_ (fun Z hT => ?_) ?_
     rotate_left
     ·go_simp
      rfl
     simp only [Act.put,lA,lB,lC,lD,lE,lF]
    refine RG.rW (.int .i64 (m : Int)) (fun Z hT => ?_) ?_
    ·obtain ⟨c0,c1⟩:=cellsY2 (blk_keep N1.out hT)
     go_simp
    simp only [Act.put,lA,lB,lC,lD,lE,lF]
    refine RG.rW (.bool true) (fun Z hT => ?_) ?_
    ·go_simp
    simp only [Act.put,lA,lB,lC,lD,lE,lF]
    refine RG.rW (.bool true) (fun Z hT => ?_) ?_
    ·(go_simp) <;> rfl
    simp only [Act.put,lA,lB,lC,lD,lE,lF]
    iterate 2
     refine RG.rW ?_ (fun Z hT => ?_) ?_
     rotate_left
     ·go_simp
      rfl
     simp only [Act.put,lA,lB,lC,lD,lE,lF]
    exact RG.RunsIf.nil
   refine RG.wpL_done (by kernel_rfl) ?_ _
   refine NoPanic.normal ?_
   refine HK.out _ _ ?_;clear HK K;go_wp2;go_ret2
   exact ⟨by simp [h3,h4],NB.out.trans (HTa.out.mono NB.out.size)⟩
  ·have k4 : (m : Int) ≤ d:=by omega
   refine wp_seq_k fun K hK => ?_
   have HK:=ζ hK
   clear hK;refine wp_region_noPanic ?_
   refine RG.wp_region_L (fun Z => True) (fun Z => Below X.heap.size X Z) [] (by kernel_rfl) ?_
   refine RG.wpL_any fun Yb hY => ?_
   have HTb : Hid (Below X.heap.size X Yb):=by rw [hY];exact below_drewN HX.out 1
   clear hY;refine RG.wpL_take (fuel:=0) (a':=?Ab) [0,1,2,3,4,5,6,7,8,9,10] (by kernel_rfl) (by kernel_rfl) (fun _ _ _ _ _ h => h) HTb.out (fun _ => trivial) ?rb ?_
   case rb =>
    iterate 2
     refine RG.rW ?_ (fun Z hT => ?_) ?_
     rotate_left
     ·go_simp
      rfl
     simp only [Act.put,lA,lB,lC,lD,lE,lF]
    iterate 2
     refine RG.rW (.bool true) (fun Z hT => ?_) ?_
     ·go_simp
     simp only [Act.put,lA,lB,lC,lD,lE,lF]
    iterate 2
     refine RG.rW ?_ (fun Z hT => ?_) ?_
     rotate_left
     ·go_simp
      rfl
     simp only [Act.put,lA,lB,lC,lD,lE,lF]
    refine RG.rW (.int .i64 (m : Int)) (fun Z hT => ?_) ?_
    ·obtain ⟨c0,c1⟩:=cellsY2 (blk_keep N1.out hT)
     go_simp
    simp only [Act.put,lA,lB,lC,lD,lE,lF]
    refine RG.rW (.bool false) (fun Z hT => ?_) ?_
    ·go_simp
    simp only [Act.put,lA,lB,lC,lD,lE,lF]
    refine RG.rW (.bool false) (fun Z hT => ?_) ?_
    ·(go_simp) <;> rfl
    simp only [Act.put,lA,lB,lC,lD,lE,lF]
    iterate 2
     refine RG.rW ?_ (fun Z hT => ?_) ?_
     rotate_left
     ·go_simp
      rfl
     simp only [Act.put,lA,lB,lC,lD,lE,lF]
    exact RG.RunsIf.nil
   refine RG.wpL_done (by kernel_rfl) ?_ _
   refine NoPanic.normal ?_
   refine HK.out _ _ ?_;clear HK K;go_wp2;go_ret2
   exact ⟨by simp [h3,h4],NB.out.trans (HTb.out.mono NB.out.size)⟩
 ·have k3 : d < 0:=by omega
  refine wp_seq_k fun K hK => ?_
  have HK:=ζ hK
  clear hK;refine wp_region_noPanic ?_
  refine RG.wp_region_L (fun Z => True) (fun Z => Below X.heap.size X Z) [] (by kernel_rfl) ?_
  refine RG.wpL_any fun Yc hY => ?_
  have HTc : Hid (Below X.heap.size X Yc):=by rw [hY];exact below_drewN HX.out 1
  clear hY;refine RG.wpL_take (fuel:=0) (a':=?Ac) [0,1,2,3,4,5,6,7,8,9,10] (by kernel_rfl) (by kernel_rfl) (fun _ _ _ _ _ h => h) HTc.out (fun _ => trivial) ?rc ?_
  case rc =>
   iterate 2
    refine RG.rW ?_ (fun Z hT => ?_) ?_
    rotate_left
    ·go_simp
     rfl
    simp only [Act.put,lA,lB,lC,lD,lE,lF]
   iterate 2
    refine RG.rW (.bool false) (fun Z hT => ?_) ?_
    ·go_simp
    simp only [Act.put,lA,lB,lC,lD,lE,lF]
   iterate 4
    refine RG.RunsIf.skip (by rfl) (by rfl) ?_
    simp only [Act.put,lA,lB,lC,lD,lE,lF]
   refine RG.rW (.bool false) (fun Z hT => ?_) ?_
   ·(go_simp) <;> rfl
   simp only [Act.put,lA,lB,lC,lD,lE,lF]
   iterate 2
    refine RG.rW ?_ (fun Z hT => ?_) ?_
    rotate_left
    ·go_simp
     rfl
    simp only [Act.put,lA,lB,lC,lD,lE,lF]
   exact RG.RunsIf.nil
  refine RG.wpL_done (by kernel_rfl) ?_ _
  refine NoPanic.normal ?_
  refine HK.out _ _ ?_;clear HK K;go_wp2;go_ret2
  exact ⟨by simp [h3];intro h9;omega,NB.out.trans (HTc.out.mono NB.out.size)⟩
theorem pseen (a b : Int) (w : World) : Calls Try.prog 35 #[.int .i64 a,.int .i64 b] w fun e w' => e = .returned (.bool (decide (a ≤ b))) ∧ w' = w:=by
 go_enter Try.func35,Try.ntmps35
 go_wp2
 go_ret
 exact ⟨rfl,rfl⟩
end LW
end Go.Proofs.Ytfbnakmmmphedaa
namespace Go.Proofs.Ytfbnakmmmphedaa
open List renaming getD_eq_getElem?_getD → gDQ
open Go Go.RowKit
namespace LW
open Mc
def egF (ed : List Eg2) (k : Nat) : List Eg2:=ed.filter (fun x => decide ((k : Int) ≤ x.2))
def egT (ed : List Eg2) (k : Nat) : List Eg2:=ed.filter (fun x => decide (x.2 = (k : Int)))
theorem eg_cut {ed : List Eg2} (h : Ord ed) (k : Nat) : egF ed k = egT ed k ++ egF ed (k + 1):=by
 unfold egF egT
 have h1 : Ord (ed.filter (fun x => decide ((k : Int) ≤ x.2))):=List.Pairwise.filter _ h
 have h2:=ord_cut h1 ((k : Int) + 1)
 rw [List.filter_filter,List.filter_filter] at h2
 rw [h2]
 congr 1
 ·apply List.filter_congr
  intro x _
  by_cases e : x.2 = (k : Int)
  ·rw [e]
   simp
   omega
  ·simp only [e,decide_false]
   rw [Bool.and_eq_false_iff];by_cases e2 : x.2 < (k : Int) + 1
   ·exact .inr (decide_eq_false (by omega))
   ·exact .inl (decide_eq_false e2)
 ·apply List.filter_congr
  intro x _
  by_cases e : ((k + 1 : Nat) : Int) ≤ x.2
  ·rw [decide_eq_true e,decide_eq_true (show (k : Int) + 1 ≤ x.2 by omega),decide_eq_true (show (k : Int) ≤ x.2 by omega)]
   rfl
  ·rw [decide_eq_false e,decide_eq_false (show ¬ (k : Int) + 1 ≤ x.2 by omega)]
   rfl
theorem eg_zero {ed : List Eg2} (h : ∀ x,x ∈ ed → ∃ i j : Nat,x = ((i : Int),(j : Int))) : egF ed 0 = ed:=by
 unfold egF
 rw [List.filter_eq_self]
 intro x hx
 obtain ⟨i,j,rfl⟩:=h x hx
 simp
theorem egF_head {ed : List Eg2} {k : Nat} {x : Eg2} {r : List Eg2} (h : egF ed (k + 1) = x :: r) : x.2 ≠ (k : Int):=by
 have hx : x ∈ egF ed (k + 1):=by rw [h];exact List.mem_cons_self
 have:=of_decide_eq_true (List.mem_filter.1 hx).2
 omega
theorem pw_len : ∀ (xs : List Int) (lo hi : Int),xs.Pairwise (· < ·) → (∀ x,x ∈ xs → lo ≤ x ∧ x < hi) → (xs.length : Int) ≤ max 0 (hi - lo)
 | [],lo,hi,_,_ => by simp;omega
 | x :: xs,lo,hi,h,hb => by
  rw [List.pairwise_cons] at h;have h1:=hb x List.mem_cons_self
  have:=pw_len xs (x + 1) hi h.2 (fun y hy => ⟨by have:=h.1 y hy;omega,(hb y (List.mem_cons_of_mem _ hy)).2⟩)
  simp only [List.length_cons]
  omega
theorem egT_len {ed : List Eg2} (h : Ord ed) (k : Nat) (hb : ∀ x,x ∈ ed → x.2 = (k : Int) → 0 ≤ x.1 ∧ x.1 < (k : Int)) : (egT ed k).length ≤ k:=by
 have h1 : ((egT ed k).map (·.1)).Pairwise (· < ·):=by
  rw [List.pairwise_map];have h2 : (egT ed k).Pairwise (fun a b => a.2 < b.2 ∨ (a.2 = b.2 ∧ a.1 < b.1)):=List.Pairwise.filter _ h
  refine List.Pairwise.imp_of_mem ?_ h2
  intro a b ha hb2 hab
  have e1:=of_decide_eq_true (List.mem_filter.1 ha).2
  have e2:=of_decide_eq_true (List.mem_filter.1 hb2).2
  omega
 have h2:=pw_len _ 0 (k : Int) h1 (fun x hx => by
  obtain ⟨y,hy,rfl⟩:=List.mem_map.1 hx
  exact hb y (List.mem_filter.1 hy).1 (of_decide_eq_true (List.mem_filter.1 hy).2))
 rw [List.length_map] at h2
 omega
def cls (s : Syst) (l : List Ev) (f m k : Nat) : Nat → List Int:=fun j => if j < k then clL s l f m j else []
def ags (s : Syst) (l : List Ev) (f m k : Nat) : Nat → List Int:=fun g => adL s l f m k (g : Int)
theorem cls_put (s : Syst) (l : List Ev) (f m k : Nat) : put (cls s l f m k) k (clL s l f m k) = cls s l f m (k + 1):=by
 funext j
 unfold put cls
 by_cases e : j = k
 ·subst e;rw [if_pos rfl,if_pos (by omega)]
 ·rw [if_neg e]
  by_cases e2 : j < k
  ·rw [if_pos e2,if_pos (by omega)]
  ·rw [if_neg e2,if_neg (by omega)]
theorem ags_same (s : Syst) (l : List Ev) (f m k : Nat) (h : (Tr.ev l k).op ≠ 10) : ags s l f m k = ags s l f m (k + 1):=by
 funext g
 exact (adL_other s l f m k _ (fun x => h x.1)).symm
theorem ags_put (s : Syst) (l : List Ev) (f m k a : Nat) (h : (Tr.ev l k).op = 10) (ha : (Tr.ev l k).a = (a : Int)) : put (ags s l f m k) a (adL s l f m (k + 1) (a : Int)) = ags s l f m (k + 1):=by
 funext g
 unfold put ags
 by_cases e : g = a
 ·subst e;rw [if_pos rfl]
 ·rw [if_neg e]
  exact (adL_other s l f m k _ (fun x => e (by have:=x.2;rw [ha] at this;omega))).symm
theorem mapI (g : Nat → Int) (m : Nat) : ((List.range m).map g).map (Value.int .i64) = rwI m (fun p => .int .i64 (g p)):=by
 unfold rwI
 rw [List.map_map]
 rfl
theorem len_rng (g : Nat → Int) (m : Nat) : ((List.range m).map g).length = m:=by simp
theorem ext_rng (g : Nat → Int) (m : Nat) (xs : List Int) (hl : xs.length = m) (h : ∀ p,p < m → xs.getD p 0 = g p) : (List.range m).map g = xs:=by
 apply List.ext_getElem?
 intro i
 by_cases hi : i < m
 ·have:=h i hi
  rw [gDQ,List.getElem?_eq_getElem (by omega)] at this
  rw [List.getElem?_map,List.getElem?_range hi,List.getElem?_eq_getElem (by omega)]
  exact congrArg some this.symm
 ·rw [List.getElem?_eq_none (by simp;omega),List.getElem?_eq_none (by omega)]
theorem adL_join (s : Syst) (l : List Ev) (f m k : Nat) (g : Int) (h : isAd l g k) : (List.range m).map (jn [adL s l f m k g,clL s l f m k]) = adL s l f m (k + 1) g:=by
 refine ext_rng _ _ _ ?_ (fun p hp => adL_add s l f m k g h p hp)
 unfold adL
 rw [if_pos ((hasA_iff l g (k + 1)).2 ⟨k,by omega,h⟩)]
 simp
def HsR (v : Oc → Value) (cl ag : Nat → List Int) (hs : List Value) (rows : List (List Int)) : Prop:=hs.length = rows.length ∧ ∀ i,i < rows.length → (∃ j,hs.getD i (.bool false) = v (Oc.cl j) ∧ rows.getD i [] = cl j) ∨ (∃ g,hs.getD i (.bool false) = v (Oc.ag g) ∧ rows.getD i [] = ag g)
theorem HsR.nil (v : Oc → Value) (cl ag : Nat → List Int) : HsR v cl ag [] []:=⟨rfl,fun i hi => by simp at hi⟩
theorem getD_snoc {α : Type} (l : List α) (x d : α) (i : Nat) : (l ++ [x]).getD i d = if i < l.length then l.getD i d else if i = l.length then x else d:=by
 rw [gDQ]
 by_cases h : i < l.length
 ·rw [List.getElem?_append_left h,if_pos h,gDQ]
 ·rw [if_neg h,List.getElem?_append_right (by omega)]
  by_cases h2 : i = l.length
  ·rw [if_pos h2,h2,Nat.sub_self];rfl
  ·rw [if_neg h2,List.getElem?_eq_none (by simp;omega)];rfl
theorem HsR.cl {v : Oc → Value} {cl ag : Nat → List Int} {hs : List Value} {rows : List (List Int)} (h : HsR v cl ag hs rows) (j : Nat) : HsR v cl ag (hs ++ [v (Oc.cl j)]) (rows ++ [cl j]):=by
 refine ⟨by simp [h.1],fun i hi => ?_⟩
 rw [getD_snoc,getD_snoc,h.1]
 simp only [List.length_append,List.length_cons,List.length_nil] at hi
 by_cases e : i < rows.length
 ·rw [if_pos e,if_pos e];exact h.2 i e
 ·rw [if_neg e,if_neg e,if_pos (by omega),if_pos (by omega)];exact .inl ⟨j,rfl,rfl⟩
theorem HsR.ag {v : Oc → Value} {cl ag : Nat → List Int} {hs : List Value} {rows : List (List Int)} (h : HsR v cl ag hs rows) (j : Nat) : HsR v cl ag (hs ++ [v (Oc.ag j)]) (rows ++ [ag j]):=by
 refine ⟨by simp [h.1],fun i hi => ?_⟩
 rw [getD_snoc,getD_snoc,h.1]
 simp only [List.length_append,List.length_cons,List.length_nil] at hi
 by_cases e : i < rows.length
 ·rw [if_pos e,if_pos e];exact h.2 i e
 ·rw [if_neg e,if_neg e,if_pos (by omega),if_pos (by omega)];exact .inr ⟨j,rfl,rfl⟩
theorem HsR.set {v : Oc → Value} {cl ag : Nat → List Int} {hs : List Value} {rows : List (List Int)} (h : HsR v cl ag hs rows) (u : Value) : HsR (vpc v Oc.ah u) cl ag hs rows:=by
 refine ⟨h.1,fun i hi => ?_⟩
 rcases h.2 i hi with ⟨j,a,b⟩ | ⟨g,a,b⟩
 ·exact .inl ⟨j,by rw [vpc_other _ _ _ _ (by intro e;cases e)];exact a,b⟩
 ·exact .inr ⟨g,by rw [vpc_other _ _ _ _ (by intro e;cases e)];exact a,b⟩
theorem CM.rr {o W : World} {G n : Nat} {cl ag : Nat → List Int} {hs : List Value} {v : Oc → Value} (h : CM o W G n cl ag hs v) {rows : List (List Int)} (hr : HsR v cl ag hs rows) : ∃ oa oc,v Oc.ah = .slice oa rows.length oc ∧ RR W oa rows:=by
 have ho : W.ownsRow o.heap.size 24 1 (v Oc.ah) hs.length hs:=h.fam.own Oc.ah
 obtain ⟨a,c,e⟩:=own_openE ho
 refine ⟨a,c,by rw [e,hr.1],?_⟩
 by_cases h0 : rows = []
 ·exact .inl h0
 ·have hp:=List.length_pos_iff.2 h0
  rcases ho.2 with ⟨_,h1⟩ | ⟨g,cap,cur,e2,hB,hh,hn,hm,hcs,ht⟩
  ·have:=hr.1;omega
  ·rw [e] at e2
   injection e2 with e3 e4 e5
   refine .inr ⟨g,0,e3,fun i hi => ?_⟩
   have hcell : W.cell? ⟨g,i,none⟩ = some (hs.getD i (.bool false)):=by
    have hi2 : i < hs.length:=by rw [hr.1];exact hi
    rw [cell_of_row W g i cur _ (0,0) hh,← Array.getElem?_toList];have h3 : (cur.toList.take (hs.length * 1))[i]? = cur.toList[i]?:=by rw [List.getElem?_take,if_pos (by omega)]
    rw [← h3,ht,gDQ,List.getElem?_eq_getElem hi2];rfl
   rw [Nat.zero_add,hcell];rcases hr.2 i hi with ⟨j,q1,q2⟩ | ⟨j,q1,q2⟩
   ·obtain ⟨a2,c2,e6,h4⟩:=h.clIs j
    exact ⟨a2,c2,by rw [q1,q2,e6],by rw [q2];exact h4⟩
   ·obtain ⟨a2,c2,e6,h4⟩:=h.agIs j
    exact ⟨a2,c2,by rw [q1,q2,e6],by rw [q2];exact h4⟩
theorem CM.start {o W1 W2 : World} {G : Nat} {u1 u2 : Value} (hb1 : Below o.heap.size o W1) (h1 : W1.ownsRow o.heap.size 24 1 u1 0 []) (hb2 : Below W1.heap.size W1 W2) (h2 : W2.ownsRow W1.heap.size 24 1 u2 G (List.replicate G (.slice none 0 0))) : ∃ v,v Oc.li = u1 ∧ v Oc.ad = u2 ∧ CM o W2 G 0 (fun _ => []) (fun _ => []) [] v:=by
 have h0:=Fam.none W1 o.heap.size (fun i => (fc 0 0 (fun _ => []) (fun _ => []) [] (fun _ => .slice none 0 0) i).ty) (fun _ => 1)
 have h3 : Fam W1 o.heap.size (upd _ Oc.li ⟨24,1,u1,0,[]⟩):=⟨fun i => by
  unfold upd;split
  ·exact h1
  ·exact h0.own i,fun i j b hi hj => by
  unfold upd at hi hj;split at hi
  ·rename_i e1
   split at hj
   ·rename_i e2;rw [e1,e2]
   ·cases hj
  ·cases hi⟩
 have h4:=h3.fresh (W':=W2) Oc.ad ⟨24,1,u2,G,List.replicate G (.slice none 0 0)⟩ hb2 (show World.ownsRow _ _ _ _ _ _ _ from own_baseL h2 hb1.size) (fun b e => own_blkI h2 b e)
 refine ⟨vpc (vpc (fun _ => .slice none 0 0) Oc.li u1) Oc.ad u2,?_,vpc_same _ _ _,⟨hb1.trans (hb2.mono hb1.size),h4.congr (fun i => ?_)⟩⟩
 ·rw [vpc_other _ _ _ _ (by intro e;cases e),vpc_same]
 ·unfold upd
  rcases i with (_ | _ | _) | ⟨c,_ | _⟩
  ·simp [fc,vpc,rwI]
  ·rw [if_pos rfl]
   show Rw.mk _ _ (vpc _ Oc.ad u2 Oc.ad) _ (rwI G (fun c => vpc (vpc (fun _ => .slice none 0 0) Oc.li u1) Oc.ad u2 (Oc.ag c))) = _
   rw [vpc_same,rwI_congr G _ (fun _ => .slice none 0 0) (fun j _ => by rw [vpc_other _ _ _ _ (by intro e;cases e),vpc_other _ _ _ _ (by intro e;cases e)])]
   unfold rwI;rw [List.map_const',List.length_range]
  ·simp [fc,vpc]
  ·simp [fc,vpc]
  ·simp [fc,vpc]
theorem rowsOf_eq (s : Syst) (l : List Ev) (f m : Nat) (ed : List Eg2) (n : Nat) : rowsOf s l f m ed n = (egT ed n).map (fun x => clL s l f m x.1.toNat) ++ (if (Tr.ev l n).op = 11 then [adL s l f m n (Tr.ev l n).a] else []):=rfl
theorem slcinfo6 : (Try.prog.info? 24).map (fun i => (i.zero,i.size,i.bytes)) = some (some (.slice none 0 0),1,24):=by kernel_rfl
def slen6 : Value → Nat
 | .slice _ n _ => n
 | _ => 0
end LW
end Go.Proofs.Ytfbnakmmmphedaa
