/-
  Ck1, Ck2, Ck3, Ck4 in one.
-/
import Derived.Test.YtfbnakmmmphedaaCpAo
import Derived.Test.YtfbnakmmmphedaaLkBo
set_option linter.unusedVariables false
set_option linter.unusedSimpArgs false
namespace Go.Proofs.Ytfbnakmmmphedaa
open Go.RowKit
namespace LW
open Mc
def RR (W : World) (oa : Option Addr) (rows : List (List Int)) : Prop:=rows = [] ∨ ∃ b off,oa = some ⟨b,off,none⟩ ∧ ∀ i,i < rows.length → ∃ a c,W.cell? ⟨b,off + i,none⟩ = some (.slice a (rows.getD i []).length c) ∧ NR W a (rows.getD i [])
theorem RR.below {W W' : World} {oa : Option Addr} {rows : List (List Int)} (h : RR W oa rows) (hb : Below W.heap.size W W') : RR W' oa rows:=by
 rcases h with h | ⟨b,off,e,h⟩
 ·exact .inl h
 ·refine .inr ⟨b,off,e,fun i hi => ?_⟩
  obtain ⟨a,c,h1,h2⟩:=h i hi
  exact ⟨a,c,keepC hb h1,h2.below hb⟩
def mxI (x y : Int) : Int:=if x < y then y else x
def jn (rows : List (List Int)) (p : Nat) : Int:=rows.foldl (fun acc r => mxI acc (r.getD p 0)) 0
theorem jn_snoc (rows : List (List Int)) (r : List Int) (p : Nat) : jn (rows ++ [r]) p = mxI (jn rows p) (r.getD p 0):=by
 unfold jn
 rw [List.foldl_append]
 rfl
theorem mxI_ge (x y : Int) : x ≤ mxI x y ∧ y ≤ mxI x y:=by unfold mxI;split <;> omega
theorem jn_nn (rows : List (List Int)) (p : Nat) : 0 ≤ jn rows p:=by
 have key : ∀ (rows : List (List Int)) (z : Int),z ≤ rows.foldl (fun acc r => mxI acc (r.getD p 0)) z:=by
  intro rows
  induction rows with
  | nil => intro z;exact Int.le_refl _
  | cons r rows ih =>
   intro z
   exact Int.le_trans (mxI_ge z _).1 (ih _)
 exact key rows 0
theorem take_one {α : Type} (l : List α) (i : Nat) (h : i < l.length) (d : α) : l.take (i + 1) = l.take i ++ [l.getD i d]:=by
 rw [List.take_add_one,List.getD_eq_getElem?_getD,List.getElem?_eq_getElem h]
 rfl
set_option maxRecDepth 100000 in
set_option maxHeartbeats 4000000 in
theorem pjoined (m : Nat) (oa : Option Addr) (oc : Nat) (rows : List (List Int)) (w : World) (hm : m ≤ 1048576) (hr : RR w oa rows) (hl : ∀ i,(rows.getD i []).length ≤ m) (hn : rows.length ≤ 4000000000) :
  Calls Try.prog 46 #[.int .i64 (m : Int),.slice oa rows.length oc] w fun e w' => (e = .returned (.slice (some ⟨w.heap.size,0,none⟩) m m) ∧ w'.ownsRow w.heap.size 3 1 (.slice (some ⟨w.heap.size,0,none⟩) m m) m (rwI m (fun p => .int .i64 (jn rows p)))) ∧ Below w.heap.size w w':=by
 obtain ⟨POST,hP⟩ : ∃ Q : Ending → World → Prop,Q = fun e w' => (e = .returned (.slice (some ⟨w.heap.size,0,none⟩) m m) ∧ w'.ownsRow w.heap.size 3 1 (.slice (some ⟨w.heap.size,0,none⟩) m m) m (rwI m (fun p => .int .i64 (jn rows p)))) ∧ Below w.heap.size w w':=⟨_,rfl⟩
 have HPo : Hid (∀ w',w'.rowIs w.heap.size 3 m (fun p => .int .i64 (jn rows p)) → Below w.heap.size w w' → POST (.returned (.slice (some ⟨w.heap.size,0,none⟩) m m)) w'):=fun w' h1 h2 => by
  rw [hP];obtain ⟨c,q1,q2,q3⟩:=h1
  refine ⟨⟨rfl,by rw [rwI_len,Nat.mul_one],.inr ⟨w.heap.size,m,c,rfl,Nat.le_refl _,q1,Nat.le_refl _,by unfold maxLen;omega,by rw [q2,Nat.mul_one],?_⟩⟩,h2⟩
  apply List.ext_getElem?
  intro i
  rw [Nat.mul_one,List.getElem?_take];by_cases hi : i < m
  ·rw [if_pos hi,rwI_get m _ i hi,Array.getElem?_toList,q3 i hi]
  ·rw [if_neg hi,List.getElem?_eq_none (by rw [rwI_len];omega)]
 rw [← hP]
 clear hP
 have HRr:=ζ hr
 have HLe:=ζ hl
 obtain ⟨i3,hi3,hz30,hz31,hz32⟩:=info_parts' intinfo
 clear hr hl
 obtain ⟨L,hL⟩ : ∃ L,rows.length = L:=⟨_,rfl⟩
 have HL:=ζ hL
 rw [hL] at hn ⊢
 clear hL
 go_enter Try.func46,Try.ntmps46
 go_wp2_with (at_make;refine wpList_make_full _ rfl _ _ 24 rfl w.heap.size 3 i3 (.int .i64 0) 1 Try.underlying24 hi3 hz30 hz31 _ _ _ _ m rfl rfl rfl rfl (by rw [hz32];omega) (by unfold maxLen;omega) (Nat.le_refl _) ?_;(intro w2 hown hgrow);have HB2 : Hid (Below w.heap.size w w2):=(Below.refl _ _).grown hgrow (Nat.le_refl _) (by intro k h;cases h);(rw [made_rep _ rfl] at hown);have HW2:=ζ (own_wholeR hown);clear hown hgrow)
 have HS2 : Hid (w2.rowIs w.heap.size 3 m (fun p => .int .i64 (jn (rows.take 0) p))):=by
  refine ⟨_,HW2.out,by simp,fun i hi => ?_⟩
  rw [List.getElem?_toArray,List.getElem?_replicate,if_pos hi];rfl
 clear HW2
 go_loopw [14] (fun a wr => ∃ i : Nat,i ≤ L ∧ a = .int .i64 (i : Int) ∧ Hid (wr.rowIs w.heap.size 3 m (fun p => .int .i64 (jn (rows.take i) p))) ∧ Hid (Below w.heap.size w wr)) (fun a wr => L - (intOf a).toNat)
 case atStart => exact ⟨0,by omega,rfl,HS2,HB2⟩
 case round =>
  clear HS2 HB2;obtain ⟨i,hi,rfl,HS,HB⟩:=hrel
  by_cases hlt : i < L
  ·have q1 : (i : Int) < (L : Int):=by omega
   have q0 : (0 : Int) ≤ (i : Int):=by omega
   obtain ⟨row,hrow⟩ : ∃ row,rows.getD i [] = row:=⟨_,rfl⟩
   rcases HRr.out with h | ⟨b,off,rfl,h⟩
   ·have:=HL.out;rw [h] at this;simp at this;omega
   obtain ⟨a,c,hc,hnr⟩:=h i (by rw [HL.out];exact hlt)
   rw [hrow] at hc hnr;have hc:=keepC HB.out hc
   have hrl : row.length ≤ m:=by have:=HLe.out i;rw [hrow] at this;exact this
   obtain ⟨R,hR⟩ : ∃ R,row.length = R:=⟨_,rfl⟩
   have HRL:=ζ hR
   have HNR:=ζ hnr
   rw [hR] at hc hrl;have HTk : Hid (∀ p,jn (rows.take (i + 1)) p = mxI (jn (rows.take i) p) (row.getD p 0)):=fun p => by
    rw [take_one rows i (by rw [HL.out];exact hlt) [],jn_snoc,hrow]
   clear h hnr hR hrow;go_wp2;clear hc;go_loopw [20] (fun x wr2 => ∃ p : Nat,p ≤ R ∧ x = .int .i64 (p : Int) ∧ Hid (wr2.rowIs w.heap.size 3 m (fun y => .int .i64 (if y < p then mxI (jn (rows.take i) y) (row.getD y 0) else jn (rows.take i) y))) ∧ Hid (Below w.heap.size w wr2)) (fun x wr2 => R - (intOf x).toNat)
   case atStart => exact ⟨0,by omega,rfl,ζ (HS.out.congr (fun y _ => by rw [if_neg (by omega)])),HB⟩
   case round =>
    clear HS HB;obtain ⟨p,hp,rfl,HS,HB⟩:=hrel
    by_cases hltp : p < R
    ·have q1 : (p : Int) < (R : Int):=by omega
     have q0 : (0 : Int) ≤ (p : Int):=by omega
     have q2 : (p : Int) < (m : Int):=by omega
     have c1:=HS.out.cell (i:=p) (by omega)
     rw [if_neg (by omega)] at c1
     have f1:=HS.out.frozen p
     rcases HNR.out.below HB.out with h | ⟨b2,off2,rfl,h⟩
     ·have:=HRL.out;rw [h] at this;simp at this;omega
     have c2:=h p (by rw [HRL.out];exact hltp)
     clear h;obtain ⟨x0,hx0⟩ : ∃ x0,jn (rows.take i) p = x0:=⟨_,rfl⟩
     obtain ⟨y0,hy0⟩ : ∃ y0,row.getD p 0 = y0:=⟨_,rfl⟩
     rw [hx0] at c1;rw [hy0] at c2;have HX : Hid (∀ v,v = mxI x0 y0 → (wr.setCell ⟨w.heap.size,p,none⟩ (.int .i64 v)).rowIs w.heap.size 3 m (fun y => .int .i64 (if y < p + 1 then mxI (jn (rows.take i) y) (row.getD y 0) else jn (rows.take i) y))):=fun v hv => by
      refine (HS.out.set p _).congr (fun y _ => ?_)
      by_cases e : y = p
      ·subst e
       rw [if_pos rfl,if_pos (by omega),hx0,hy0,hv]
      ·rw [if_neg e]
       by_cases e2 : y < p
       ·rw [if_pos e2,if_pos (by omega)]
       ·rw [if_neg e2,if_neg (by omega)]
     have HBn : Hid (∀ v,Below w.heap.size w (wr.setCell ⟨w.heap.size,p,none⟩ v)):=fun v => HB.out.setCell (p:=⟨w.heap.size,p,none⟩) (Nat.le_refl _) v
     clear hx0 hy0 HS HB;by_cases hxy : x0 < y0
     ·go_wp2
      go_roundw
      case rel => exact ⟨p + 1,by omega,by go_num,ζ (HX.out _ (by unfold mxI;rw [if_pos hxy])),ζ (HBn.out _)⟩
      case measure => simp [intOf];omega
     ·go_wp2
      go_roundw
      case rel => exact ⟨p + 1,by omega,by go_num,ζ (HX.out _ (by unfold mxI;rw [if_neg hxy])),ζ (HBn.out _)⟩
      case measure => simp [intOf];omega
    ·obtain rfl : p = R:=by omega
     have q1 : ¬ (p : Int) < (p : Int):=by omega
     have HS3 : Hid (wr.rowIs w.heap.size 3 m (fun y => .int .i64 (jn (rows.take (i + 1)) y))):=HS.out.congr (fun y _ => by
      rw [HTk.out y];by_cases e : y < p
      ·rw [if_pos e]
      ·rw [if_neg e,List.getD_eq_getElem?_getD,List.getElem?_eq_none (by rw [HRL.out];omega)]
       have:=jn_nn (rows.take i) y
       unfold mxI;rw [if_neg (by show ¬ _ < (0 : Int);omega)])
     clear HS HTk;go_wp2;exact ⟨⟨i + 1,by omega,by go_num,HS3,HB⟩,by simp [intOf];omega⟩
  ·obtain rfl : i = L:=by omega
   have q1 : ¬ (i : Int) < (i : Int):=by omega
   have HR:=ζ (HPo.out wr (by
    have:=HS.out
    rw [← HL.out,List.take_length] at this;exact this) HB.out)
   clear HPo HS HB;go_wp2;first | exact HR.out | exact ⟨rfl,HR.out⟩
end LW
end Go.Proofs.Ytfbnakmmmphedaa
namespace Go.Proofs.Ytfbnakmmmphedaa
open Go Go.RowKit
namespace LW
open Mc
theorem jn_ge : ∀ (rows : List (List Int)) (p : Nat) (r : List Int),r ∈ rows → r.getD p 0 ≤ jn rows p:=by
 intro rows p r
 have mono : ∀ (rows : List (List Int)) (z : Int),z ≤ rows.foldl (fun acc r => mxI acc (r.getD p 0)) z:=by
  intro rows
  induction rows with
  | nil => intro z;exact Int.le_refl _
  | cons r rows ih =>
   intro z
   exact Int.le_trans (mxI_ge z _).1 (ih _)
 have key : ∀ (rows : List (List Int)) (z : Int),r ∈ rows → r.getD p 0 ≤ rows.foldl (fun acc r => mxI acc (r.getD p 0)) z:=by
  intro rows
  induction rows with
  | nil => intro z h;cases h
  | cons q rows ih =>
   intro z h
   rcases List.mem_cons.1 h with rfl | h
   ·exact Int.le_trans (mxI_ge z _).2 (mono rows _)
   ·exact ih _ h
 exact key rows 0
theorem jn_is : ∀ (rows : List (List Int)) (p : Nat),jn rows p = 0 ∨ ∃ r,r ∈ rows ∧ r.getD p 0 = jn rows p:=by
 intro rows p
 have key : ∀ (rows : List (List Int)) (z : Int),rows.foldl (fun acc r => mxI acc (r.getD p 0)) z = z ∨ ∃ r,r ∈ rows ∧ r.getD p 0 = rows.foldl (fun acc r => mxI acc (r.getD p 0)) z:=by
  intro rows
  induction rows with
  | nil => intro z;exact .inl rfl
  | cons q rows ih =>
   intro z
   rcases ih (mxI z (q.getD p 0)) with h | ⟨r,h1,h2⟩
   ·rw [List.foldl_cons,h]
    unfold mxI;split
    ·exact .inr ⟨q,List.mem_cons_self,rfl⟩
    ·exact .inl rfl
   ·exact .inr ⟨r,List.mem_cons_of_mem _ h1,h2⟩
 exact key rows 0
theorem jn_eq {rows : List (List Int)} {p : Nat} {v : Int} (h0 : 0 ≤ v) (h1 : ∀ r,r ∈ rows → r.getD p 0 ≤ v) (h2 : v = 0 ∨ ∃ r,r ∈ rows ∧ r.getD p 0 = v) : jn rows p = v:=by
 have h3 : jn rows p ≤ v:=by
  rcases jn_is rows p with h | ⟨r,hr,h⟩
  ·omega
  ·have:=h1 r hr;omega
 rcases h2 with rfl | ⟨r,hr,rfl⟩
 ·have:=jn_nn rows p;omega
 ·have:=jn_ge rows p r hr;omega
def clL (s : Syst) (l : List Ev) (f m j : Nat) : List Int:=(List.range m).map (fun p => (Tr.ck s l ((f + p : Nat) : Int) j : Int))
theorem clL_len (s : Syst) (l : List Ev) (f m j : Nat) : (clL s l f m j).length = m:=by simp [clL]
theorem rng_getD (g : Nat → Int) (m p : Nat) (h : p < m) : ((List.range m).map g).getD p 0 = g p:=by
 rw [List.getD_eq_getElem?_getD,List.getElem?_map,List.getElem?_range h]
 rfl
theorem clL_at (s : Syst) (l : List Ev) (f m j p : Nat) (h : p < m) : (clL s l f m j).getD p 0 = (Tr.ck s l ((f + p : Nat) : Int) j : Int):=rng_getD _ m p h
def isAd (l : List Ev) (g : Int) (i : Nat) : Prop:=(Tr.ev l i).op = 10 ∧ (Tr.ev l i).a = g
def decAd (l : List Ev) (g : Int) (i : Nat) : Decidable (isAd l g i):=by
 unfold isAd
 exact inferInstance
def hasA (l : List Ev) (g : Int) : Nat → Bool
 | 0 => false
 | n + 1 => hasA l g n || @decide (isAd l g n) (decAd l g n)
theorem hasA_iff (l : List Ev) (g : Int) : ∀ n,hasA l g n = true ↔ ∃ i,i < n ∧ isAd l g i
 | 0 => by simp [hasA]
 | n + 1 => by
  rw [hasA,Bool.or_eq_true,hasA_iff l g n];constructor
  ·rintro (⟨i,h1,h2⟩ | h)
   ·exact ⟨i,by omega,h2⟩
   ·exact ⟨n,by omega,@of_decide_eq_true _ (decAd l g n) h⟩
  ·rintro ⟨i,h1,h2⟩
   by_cases e : i = n
   ·subst e;exact .inr (@decide_eq_true _ (decAd l g i) h2)
   ·exact .inl ⟨i,by omega,h2⟩
def adL (s : Syst) (l : List Ev) (f m n : Nat) (g : Int) : List Int:=if hasA l g n = true then (List.range m).map (fun p => (Tr.mx (isAd l g) (decAd l g) (Tr.ck s l ((f + p : Nat) : Int)) n : Int)) else []
theorem adL_len (s : Syst) (l : List Ev) (f m n : Nat) (g : Int) : (adL s l f m n g).length ≤ m:=by
 unfold adL
 split <;> simp
theorem adL_at (s : Syst) (l : List Ev) (f m n : Nat) (g : Int) (p : Nat) (hp : p < m) : (adL s l f m n g).getD p 0 = (Tr.mx (isAd l g) (decAd l g) (Tr.ck s l ((f + p : Nat) : Int)) n : Int):=by
 unfold adL
 split
 ·exact rng_getD _ m p hp
 ·rename_i h
  have h1 : Tr.mx (isAd l g) (decAd l g) (Tr.ck s l ((f + p : Nat) : Int)) n = 0:=Tr.mx_eq (fun i hi hP => absurd ((hasA_iff l g n).2 ⟨i,hi,hP⟩) h) (.inl rfl)
  rw [h1];simp
theorem adL_other (s : Syst) (l : List Ev) (f m n : Nat) (g : Int) (h : ¬ isAd l g n) : adL s l f m (n + 1) g = adL s l f m n g:=by
 have h1 : hasA l g (n + 1) = hasA l g n:=by
  rw [hasA,@decide_eq_false _ (decAd l g n) h,Bool.or_false]
 unfold adL
 rw [h1]
 have h2 : ∀ k,Tr.mx (isAd l g) (decAd l g) k (n + 1) = Tr.mx (isAd l g) (decAd l g) k n:=fun k => by
  rw [Tr.mx];exact if_neg h
 simp only [h2]
theorem adL_add (s : Syst) (l : List Ev) (f m n : Nat) (g : Int) (h : isAd l g n) (p : Nat) (hp : p < m) : (adL s l f m (n + 1) g).getD p 0 = jn [adL s l f m n g,clL s l f m n] p:=by
 symm
 rw [adL_at s l f m (n + 1) g p hp]
 have h2 : Tr.mx (isAd l g) (decAd l g) (Tr.ck s l ((f + p : Nat) : Int)) (n + 1) = max (Tr.mx (isAd l g) (decAd l g) (Tr.ck s l ((f + p : Nat) : Int)) n) (Tr.ck s l ((f + p : Nat) : Int) n):=by
  rw [Tr.mx];exact if_pos h
 have a1:=adL_at s l f m n g p hp
 have a2:=clL_at s l f m n p hp
 rw [h2]
 refine jn_eq (by omega) (fun r hr => ?_) ?_
 ·simp only [List.mem_cons,List.not_mem_nil,or_false] at hr
  rcases hr with rfl | rfl <;> omega
 ·right
  by_cases hx : Tr.mx (isAd l g) (decAd l g) (Tr.ck s l ((f + p : Nat) : Int)) n ≤ Tr.ck s l ((f + p : Nat) : Int) n
  ·exact ⟨_,List.mem_cons_of_mem _ List.mem_cons_self,by rw [a2];omega⟩
  ·exact ⟨_,List.mem_cons_self,by rw [a1];omega⟩
def rowsOf (s : Syst) (l : List Ev) (f m : Nat) (ed : List Eg2) (n : Nat) : List (List Int):=((ed.filter (fun x => decide (x.2 = (n : Int)))).map (fun x => clL s l f m x.1.toNat)) ++ (if (Tr.ev l n).op = 11 then [adL s l f m n (Tr.ev l n).a] else [])
theorem clock_eq {s : Syst} {l : List Ev} {ed : List Eg2} (f m n p : Nat) (hp : p < m) (hn : n < l.length) (hE : ∀ i j : Nat,((i : Int),(j : Int)) ∈ ed ↔ (j < l.length ∧ Tr.EL s l i j)) (hN : ∀ x,x ∈ ed → ∃ i j : Nat,x = ((i : Int),(j : Int))) :
  jn (rowsOf s l f m ed n) p + (if (Tr.ev l n).who = ((f + p : Nat) : Int) then 1 else 0) = (Tr.ck s l ((f + p : Nat) : Int) n : Int):=by
 have h0 : jn (rowsOf s l f m ed n) p = (Tr.mx (fun i => Tr.Eg s l i n) (fun i => Tr.decE s l i n) (Tr.ck s l ((f + p : Nat) : Int)) n : Int):=by
  have memL : ∀ i,i < n → Tr.EL s l i n → clL s l f m i ∈ rowsOf s l f m ed n:=fun i hi h => by
   refine List.mem_append_left _ (List.mem_map.2 ⟨((i : Int),(n : Int)),List.mem_filter.2 ⟨(hE i n).2 ⟨hn,h⟩,by simp⟩,?_⟩)
   simp
  have memW : (Tr.ev l n).op = 11 → adL s l f m n (Tr.ev l n).a ∈ rowsOf s l f m ed n:=fun h => by
   refine List.mem_append_right _ ?_
   rw [if_pos h];exact List.mem_cons_self
  refine jn_eq (by omega) (fun r hr => ?_) ?_
  ·rcases List.mem_append.1 hr with h | h
   ·obtain ⟨x,hx,rfl⟩:=List.mem_map.1 h
    obtain ⟨hx1,hx2⟩:=List.mem_filter.1 hx
    obtain ⟨i,j,rfl⟩:=hN x hx1
    have hj : j = n:=by have:=of_decide_eq_true hx2;dsimp only at this;omega
    subst hj;have h2:=((hE i j).1 hx1).2
    rw [show ((i : Int),(j : Int)).1.toNat = i by simp,clL_at s l f m i p hp]
    have:=Tr.mx_ge (P:=fun i => Tr.Eg s l i j) (d:=fun i => Tr.decE s l i j) (f:=Tr.ck s l ((f + p : Nat) : Int)) h2.lt (.inl h2)
    omega
   ·split at h
    ·rename_i hop
     obtain rfl:=List.mem_singleton.1 h
     rw [adL_at s l f m n _ p hp];rcases Tr.mx_is (isAd l (Tr.ev l n).a) (decAd l (Tr.ev l n).a) (Tr.ck s l ((f + p : Nat) : Int)) n with h1 | ⟨i,hi,hP,h1⟩
     ·omega
     ·have:=Tr.mx_ge (P:=fun i => Tr.Eg s l i n) (d:=fun i => Tr.decE s l i n) (f:=Tr.ck s l ((f + p : Nat) : Int)) hi (.inr ⟨hi,hop,hP.1,hP.2⟩)
      omega
    ·cases h
  ·rcases Tr.mx_is (fun i => Tr.Eg s l i n) (fun i => Tr.decE s l i n) (Tr.ck s l ((f + p : Nat) : Int)) n with h1 | ⟨i,hi,hP,h1⟩
   ·left;omega
   ·right
    rcases hP with hP | hP
    ·exact ⟨_,memL i hi hP,by rw [clL_at s l f m i p hp];omega⟩
    ·refine ⟨_,memW hP.2.1,?_⟩
     rw [adL_at s l f m n _ p hp];have a1:=Tr.mx_ge (P:=isAd l (Tr.ev l n).a) (d:=decAd l (Tr.ev l n).a) (f:=Tr.ck s l ((f + p : Nat) : Int)) hi ⟨hP.2.2.1,hP.2.2.2⟩
     have a2 : Tr.mx (isAd l (Tr.ev l n).a) (decAd l (Tr.ev l n).a) (Tr.ck s l ((f + p : Nat) : Int)) n ≤ Tr.mx (fun i => Tr.Eg s l i n) (fun i => Tr.decE s l i n) (Tr.ck s l ((f + p : Nat) : Int)) n:=by
      rcases Tr.mx_is (isAd l (Tr.ev l n).a) (decAd l (Tr.ev l n).a) (Tr.ck s l ((f + p : Nat) : Int)) n with h3 | ⟨k,hk,hQ,h3⟩
      ·omega
      ·rw [← h3]
       exact Tr.mx_ge (P:=fun i => Tr.Eg s l i n) (d:=fun i => Tr.decE s l i n) hk (.inr ⟨hk,hP.2.1,hQ.1,hQ.2⟩)
     omega
 rw [h0,Tr.ck_eq s l _ n]
 split <;> omega
end LW
end Go.Proofs.Ytfbnakmmmphedaa
namespace Go.Proofs.Ytfbnakmmmphedaa
open Go Go.RowKit
namespace LW
open Mc
theorem lnk_nat {f : Int} {n : Nat} {x : Eg2} (hf : f = -1 ∨ ∃ k : Nat,f = k) (h : x ∈ Tr.lnk f n) : ∃ i j : Nat,x = ((i : Int),(j : Int)):=by
 rw [Tr.lnk_mem] at h
 rcases hf with hf | ⟨k,hk⟩
 ·exact absurd hf h.1
 ·exact ⟨k,n,by rw [h.2,hk]⟩
theorem laF_nat (l : List Ev) (r : Int) : ∀ n,Tr.laF l n r = -1 ∨ ∃ k : Nat,Tr.laF l n r = k
 | 0 => .inl rfl
 | n + 1 => by
  rw [Tr.laF];split
  ·exact .inr ⟨n,rfl⟩
  ·split
   ·exact .inr ⟨n,rfl⟩
   ·exact laF_nat l r n
theorem shF_nat (l : List Ev) (r : Int) : ∀ n,Tr.shF l n r = -1 ∨ ∃ k : Nat,Tr.shF l n r = k
 | 0 => .inl rfl
 | n + 1 => by
  rw [Tr.shF];split
  ·exact .inr ⟨n,rfl⟩
  ·exact shF_nat l r n
theorem snI_nat (l : List Ev) (c : Int) : ∀ n,∀ x ∈ Tr.snI l n c,∃ k : Nat,x = (k : Int)
 | 0 => by simp [Tr.snI]
 | n + 1 => by
  rw [Tr.snI];split
  ·intro x hx
   rcases List.mem_append.1 hx with h | h
   ·exact snI_nat l c n x h
   ·exact ⟨n,List.mem_singleton.1 h⟩
  ·exact snI_nat l c n
theorem tkI_nat (l : List Ev) (c : Int) : ∀ n,∀ x ∈ Tr.tkI l n c,∃ k : Nat,x = (k : Int)
 | 0 => by simp [Tr.tkI]
 | n + 1 => by
  rw [Tr.tkI];split
  ·intro x hx
   rcases List.mem_append.1 hx with h | h
   ·exact tkI_nat l c n x h
   ·exact ⟨n,List.mem_singleton.1 h⟩
  ·exact tkI_nat l c n
theorem frI_nat (l : List Ev) (c : Int) : ∀ n,∀ x ∈ Tr.frI l n c,∃ k : Nat,x = (k : Int)
 | 0 => by simp [Tr.frI]
 | n + 1 => by
  rw [Tr.frI];split
  ·intro x hx
   rcases List.mem_append.1 hx with h | h
   ·exact frI_nat l c n x h
   ·exact ⟨n,List.mem_singleton.1 h⟩
  ·split
   ·simp
   ·exact frI_nat l c n
theorem get_nat {xs : List Int} (h : ∀ x ∈ xs,∃ k : Nat,x = (k : Int)) (i : Nat) : ∃ k : Nat,xs.getD i 0 = (k : Int):=by
 rw [List.getD_eq_getElem?_getD]
 rcases hx : xs[i]? with _ | y
 ·exact ⟨0,rfl⟩
 ·exact h y (List.mem_of_getElem? hx)
theorem opE_nat {s : Syst} {l : List Ev} {n : Nat} {x : Eg2} (h : x ∈ Tr.opE s l n) : ∃ i j : Nat,x = ((i : Int),(j : Int)):=by
 unfold Tr.opE at h
 dsimp only at h
 split at h
 ·split at h
  ·exact lnk_nat (.inr (get_nat (tkI_nat l _ n) _)) h
  ·cases h
 ·split at h
  ·split at h
   ·exact lnk_nat (shF_nat l _ n) h
   ·exact lnk_nat (.inr (get_nat (snI_nat l _ n) _)) h
  ·split at h
   ·obtain ⟨f,h1,h2⟩:=List.mem_flatMap.1 h
    exact lnk_nat (.inr (frI_nat l _ n f h1)) h2
   ·cases h
theorem edF_nat (s : Syst) (l : List Ev) : ∀ n,∀ x ∈ Tr.edF s l n,∃ i j : Nat,x = ((i : Int),(j : Int))
 | 0 => by simp [Tr.edF]
 | n + 1 => by
  intro x hx
  rw [Tr.edF] at hx;rcases List.mem_append.1 hx with h | h
  ·rcases List.mem_append.1 h with h | h
   ·exact edF_nat s l n x h
   ·exact lnk_nat (laF_nat l _ n) h
  ·exact opE_nat h
theorem ord_cut {ed : List Eg2} (h : Ord ed) (n : Int) : ed = ed.filter (fun x => decide (x.2 < n)) ++ ed.filter (fun x => decide (n ≤ x.2)):=by
 induction ed with
 | nil => rfl
 | cons a l ih =>
  unfold Ord at h;rw [List.pairwise_cons] at h;have ih:=ih h.2
  by_cases ha : a.2 < n
  ·rw [List.filter_cons_of_pos (by simpa using ha),List.filter_cons_of_neg (by simp;omega),List.cons_append,← ih]
  ·have hall : ∀ x ∈ l,n ≤ x.2:=fun x hx => by
    have:=h.1 x hx
    omega
   rw [List.filter_cons_of_neg (by simpa using ha),List.filter_cons_of_pos (by simp;omega)]
   rw [List.filter_eq_nil_iff.2 (fun x hx => by have:=hall x hx;simp;omega),List.filter_eq_self.2 (fun x hx => by have:=hall x hx;simpa using this)]
   rfl
end LW
end Go.Proofs.Ytfbnakmmmphedaa
namespace Go.Proofs.Ytfbnakmmmphedaa
open Go Go.RowKit
namespace LW
open Mc
abbrev Oc:=Option Bool ⊕ (Nat × Bool)
abbrev Oc.li : Oc:=.inl none
abbrev Oc.ad : Oc:=.inl (some false)
abbrev Oc.ah : Oc:=.inl (some true)
abbrev Oc.cl (j : Nat) : Oc:=.inr (j,false)
abbrev Oc.ag (c : Nat) : Oc:=.inr (c,true)
def vpc (v : Oc → Value) (i : Oc) (x : Value) : Oc → Value:=fun j => if j = i then x else v j
theorem vpc_same (v : Oc → Value) (i : Oc) (x : Value) : vpc v i x i = x:=by simp [vpc]
theorem vpc_other (v : Oc → Value) (i j : Oc) (x : Value) (h : j ≠ i) : vpc v i x j = v j:=by simp [vpc,h]
def fc (G n : Nat) (cl ag : Nat → List Int) (hs : List Value) (v : Oc → Value) : Oc → Rw
 | .inl none => ⟨24,1,v Oc.li,n,rwI n (fun j => v (Oc.cl j))⟩
 | .inl (some false) => ⟨24,1,v Oc.ad,G,rwI G (fun c => v (Oc.ag c))⟩
 | .inl (some true) => ⟨24,1,v Oc.ah,hs.length,hs⟩
 | .inr (j,false) => ⟨3,1,v (Oc.cl j),(cl j).length,(cl j).map (Value.int .i64)⟩
 | .inr (c,true) => ⟨3,1,v (Oc.ag c),(ag c).length,(ag c).map (Value.int .i64)⟩
theorem fc_val (G n : Nat) (cl ag : Nat → List Int) (hs : List Value) (v : Oc → Value) (i : Oc) : (fc G n cl ag hs v i).val = v i:=by rcases i with (_ | _ | _) | ⟨c,_ | _⟩ <;> rfl
structure CM (o W : World) (G n : Nat) (cl ag : Nat → List Int) (hs : List Value) (v : Oc → Value) : Prop where
 bl : Below o.heap.size o W
 fam : Fam W o.heap.size (fc G n cl ag hs v)
section
variable {o W W1 : World} {G n : Nat} {cl ag : Nat → List Int} {hs : List Value} {v : Oc → Value}
theorem CM.below {W' : World} (h : CM o W G n cl ag hs v) (hb : Below W.heap.size W W') : CM o W' G n cl ag hs v:=⟨h.bl.trans (hb.mono h.bl.size),h.fam.below hb⟩
theorem CM.liAt (h : CM o W G n cl ag hs v) (j : Nat) (hj : j < n) : ∃ b cap,v Oc.li = .slice (some ⟨b,0,none⟩) n cap ∧ W.cell? ⟨b,j,none⟩ = some (v (Oc.cl j)):=by
 obtain ⟨b,cap,e,_,_,_,hc⟩:=own_rw (h.fam.own Oc.li) j hj
 exact ⟨b,cap,e,hc⟩
theorem CM.adAt (h : CM o W G n cl ag hs v) (c : Nat) (hc : c < G) : ∃ b cap,v Oc.ad = .slice (some ⟨b,0,none⟩) G cap ∧ W.cell? ⟨b,c,none⟩ = some (v (Oc.ag c)) ∧ W.frozen? ⟨b,c,none⟩ = false:=by
 obtain ⟨b,cap,e,_,_,_,hcc⟩:=own_rw (h.fam.own Oc.ad) c hc
 have e' : v Oc.ad = _:=e
 refine ⟨b,cap,e',hcc,?_⟩
 have ho:=h.fam.own Oc.ad
 unfold Rw.In at ho
 rw [e] at ho
 exact ho.frozenAt c
theorem CM.clIs (h : CM o W G n cl ag hs v) (j : Nat) : ∃ a c,v (Oc.cl j) = .slice a (cl j).length c ∧ NR W a (cl j):=by
 have ho : W.ownsRow o.heap.size 3 1 (v (Oc.cl j)) (cl j).length ((cl j).map (Value.int .i64)):=h.fam.own (Oc.cl j)
 obtain ⟨a,c,e,h1⟩:=own_read1 0 ho rfl
 refine ⟨a,c,e,?_⟩
 rcases h1 with h1 | ⟨b,hb,h1⟩
 ·exact .inl h1
 ·exact .inr ⟨b,0,hb,fun i hi => by rw [Nat.zero_add];exact h1 i hi⟩
theorem CM.agIs (h : CM o W G n cl ag hs v) (j : Nat) : ∃ a c,v (Oc.ag j) = .slice a (ag j).length c ∧ NR W a (ag j):=by
 have ho : W.ownsRow o.heap.size 3 1 (v (Oc.ag j)) (ag j).length ((ag j).map (Value.int .i64)):=h.fam.own (Oc.ag j)
 obtain ⟨a,c,e,h1⟩:=own_read1 0 ho rfl
 refine ⟨a,c,e,?_⟩
 rcases h1 with h1 | ⟨b,hb,h1⟩
 ·exact .inl h1
 ·exact .inr ⟨b,0,hb,fun i hi => by rw [Nat.zero_add];exact h1 i hi⟩
theorem CM.newAh (h : CM o W G n cl ag hs v) : CM o W G n cl ag [] (vpc v Oc.ah (.slice none 0 0)):=by
 refine ⟨h.bl,(h.fam.nil Oc.ah).congr (fun i => ?_)⟩
 unfold upd
 rcases i with (_ | _ | _) | ⟨c,_ | _⟩ <;> simp [fc,vpc]
theorem CM.appAh (h : CM o W G n cl ag hs v) (x u : Value) (ho : W1.ownsRow o.heap.size 24 1 u (hs.length + 1) (hs ++ [x])) (hg : W.grownBy W1 (v Oc.ah).ownBlock) (hat : u.ownBlock = (v Oc.ah).ownBlock ∨ u.ownBlock = some W.heap.size) : CM o W1 G n cl ag (hs ++ [x]) (vpc v Oc.ah u):=by
 have hF:=h.fam.grown (W':=W1) Oc.ah ⟨24,1,u,hs.length + 1,hs ++ [x]⟩ (by rw [fc_val];exact hg) (show World.ownsRow _ _ _ _ _ _ _ from ho) (by
  rw [fc_val];rcases hat with e | e
  ·exact .inl e
  ·refine .inr fun b hb => ?_
   have hb' : u.ownBlock = some b:=hb
   rw [e] at hb'
   injection hb' with hb'
   omega)
 refine ⟨h.bl.grown hg h.bl.size (fun b e => own_blkI (h.fam.own Oc.ah) b (by rw [fc_val];exact e)),hF.congr (fun i => ?_)⟩
 unfold upd
 rcases i with (_ | _ | _) | ⟨c,_ | _⟩ <;> simp [fc,vpc]
theorem CM.newCl (h : CM o W G n cl ag hs v) (hb : Below W.heap.size W W1) (r : List Int) (u : Value) (ho : W1.ownsRow W.heap.size 3 1 u r.length (r.map (Value.int .i64))) : CM o W1 G n (put cl n r) ag hs (vpc v (Oc.cl n) u):=by
 have ho' : W1.ownsRow o.heap.size 3 1 u r.length (r.map (Value.int .i64)):=own_baseL ho h.bl.size
 have hF:=h.fam.fresh (W':=W1) (Oc.cl n) ⟨3,1,u,r.length,r.map (Value.int .i64)⟩ hb (show World.ownsRow _ _ _ _ _ _ _ from ho') (fun b e => own_blkI ho b e)
 refine ⟨h.bl.trans (hb.mono h.bl.size),hF.congr (fun i => ?_)⟩
 unfold upd
 rcases i with (_ | _ | _) | ⟨c,_ | _⟩
 ·simp only [fc]
  rw [if_neg (by intro e;cases e)]
  show Rw.mk _ _ (vpc v (Oc.cl n) u Oc.li) _ (rwI n (fun j => vpc v (Oc.cl n) u (Oc.cl j))) = _
  rw [vpc_other _ _ _ _ (by intro e;cases e),rwI_congr n _ (fun j => v (Oc.cl j)) (fun j hj => vpc_other _ _ _ _ (by intro e;cases e;omega))]
 ·simp [fc,vpc]
 ·simp [fc,vpc]
 ·by_cases e : c = n
  ·subst e
   rw [if_pos rfl];show Rw.mk _ _ (vpc v (Oc.cl c) u (Oc.cl c)) (put cl c r c).length ((put cl c r c).map _) = _
   rw [put_same,vpc_same]
  ·rw [if_neg (by intro e2;cases e2;exact e rfl)]
   show Rw.mk _ _ (vpc v (Oc.cl n) u (Oc.cl c)) (put cl n r c).length ((put cl n r c).map _) = _
   rw [put_other _ _ _ _ e,vpc_other _ _ _ _ (by intro e2;cases e2;exact e rfl)]
   rfl
 ·simp [fc,vpc]
theorem CM.appLi (h : CM o W G n cl ag hs v) (u : Value) (ho : W1.ownsRow o.heap.size 24 1 u (n + 1) (rwI n (fun j => v (Oc.cl j)) ++ [v (Oc.cl n)])) (hg : W.grownBy W1 (v Oc.li).ownBlock) (hat : u.ownBlock = (v Oc.li).ownBlock ∨ u.ownBlock = some W.heap.size) : CM o W1 G (n + 1) cl ag hs (vpc v Oc.li u):=by
 have hF:=h.fam.grown (W':=W1) Oc.li ⟨24,1,u,n + 1,rwI n (fun j => v (Oc.cl j)) ++ [v (Oc.cl n)]⟩ (by rw [fc_val];exact hg) (show World.ownsRow _ _ _ _ _ _ _ from ho) (by
  rw [fc_val];rcases hat with e | e
  ·exact .inl e
  ·refine .inr fun b hb => ?_
   have hb' : u.ownBlock = some b:=hb
   rw [e] at hb'
   injection hb' with hb'
   omega)
 refine ⟨h.bl.grown hg h.bl.size (fun b e => own_blkI (h.fam.own Oc.li) b (by rw [fc_val];exact e)),hF.congr (fun i => ?_)⟩
 unfold upd
 rcases i with (_ | _ | _) | ⟨c,_ | _⟩
 ·rw [if_pos rfl]
  show Rw.mk _ _ (vpc v Oc.li u Oc.li) _ (rwI (n + 1) (fun j => vpc v Oc.li u (Oc.cl j))) = _
  rw [vpc_same];congr 1
  unfold rwI;rw [List.range_succ,List.map_append];simp [vpc]
 all_goals simp [fc,vpc]
theorem CM.setCl (h : CM o W G n cl ag hs v) (j p : Nat) (x : Int) {b cap : Nat} (hv : v (Oc.cl j) = .slice (some ⟨b,0,none⟩) (cl j).length cap) : CM o (W.setCell ⟨b,p,none⟩ (.int .i64 x)) G n (put cl j ((cl j).set p x)) ag hs v:=by
 have hob : (fc G n cl ag hs v (Oc.cl j)).val.ownBlock = some b:=by rw [fc_val,hv];rfl
 have hB : o.heap.size ≤ b:=own_blkI (h.fam.own (Oc.cl j)) b hob
 refine ⟨h.bl.setCell (p:=⟨b,p,none⟩) hB _,(h.fam.set (Oc.cl j) (by rw [fc_val];exact hv) rfl p (.int .i64 x)).congr (fun i => ?_)⟩
 unfold upd
 rcases i with (_ | _ | _) | ⟨c,_ | _⟩
 ·simp [fc]
 ·simp [fc]
 ·simp [fc]
 ·by_cases e : c = j
  ·subst e
   rw [if_pos rfl];show Rw.mk _ _ _ (put cl c ((cl c).set p x) c).length ((put cl c ((cl c).set p x) c).map _) = Rw.mk _ _ _ (cl c).length (((cl c).map (Value.int .i64)).set p _)
   rw [put_same,List.length_set,List.map_set];rfl
  ·rw [if_neg (by intro e2;cases e2;exact e rfl)]
   show Rw.mk _ _ _ (put cl j ((cl j).set p x) c).length ((put cl j ((cl j).set p x) c).map _) = _
   rw [put_other _ _ _ _ e];rfl
 ·simp [fc]
theorem CM.setAg (h : CM o W G n cl ag hs v) (hb : Below W.heap.size W W1) (c : Nat) (hc : c < G) (r : List Int) (u : Value) (ho : W1.ownsRow W.heap.size 3 1 u r.length (r.map (Value.int .i64))) {b cap : Nat} (hv : v Oc.ad = .slice (some ⟨b,0,none⟩) G cap) : CM o (W1.setCell ⟨b,c,none⟩ u) G n cl (put ag c r) hs (vpc v (Oc.ag c) u):=by
 have ho' : W1.ownsRow o.heap.size 3 1 u r.length (r.map (Value.int .i64)):=own_baseL ho h.bl.size
 have hF:=h.fam.fresh (W':=W1) (Oc.ag c) ⟨3,1,u,r.length,r.map (Value.int .i64)⟩ hb (show World.ownsRow _ _ _ _ _ _ _ from ho') (fun b e => own_blkI ho b e)
 have hob : (fc G n cl ag hs v Oc.ad).val.ownBlock = some b:=by rw [fc_val,hv];rfl
 have hB : o.heap.size ≤ b:=own_blkI (h.fam.own Oc.ad) b hob
 have hx : upd (fc G n cl ag hs v) (Oc.ag c) ⟨3,1,u,r.length,r.map (Value.int .i64)⟩ Oc.ad = fc G n cl ag hs v Oc.ad:=upd_other _ _ _ _ (by intro e;cases e)
 refine ⟨(h.bl.trans (hb.mono h.bl.size)).setCell (p:=⟨b,c,none⟩) hB _,(hF.set Oc.ad (by rw [hx,fc_val];exact hv) (by rw [hx];rfl) c u).congr (fun i => ?_)⟩
 rw [hx]
 unfold upd
 rcases i with (_ | _ | _) | ⟨k,_ | _⟩
 ·simp [fc,vpc]
 ·rw [if_pos rfl]
  show Rw.mk _ _ (vpc v (Oc.ag c) u Oc.ad) _ (rwI G (fun k => vpc v (Oc.ag c) u (Oc.ag k))) = Rw.mk _ _ _ _ ((rwI G (fun k => v (Oc.ag k))).set c u)
  rw [rwI_set G (fun k => v (Oc.ag k)) (fun k => vpc v (Oc.ag c) u (Oc.ag k)) c u (vpc_same _ _ _) (fun j hj => vpc_other _ _ _ _ (by intro e;cases e;exact hj rfl))]
  rw [vpc_other _ _ _ _ (by intro e;cases e)]
  rfl
 ·simp [fc,vpc]
 ·simp [fc,vpc]
 ·rw [if_neg (by intro e;cases e)]
  by_cases e : k = c
  ·subst e
   rw [if_pos rfl];show Rw.mk _ _ (vpc v (Oc.ag k) u (Oc.ag k)) (put ag k r k).length ((put ag k r k).map _) = _
   rw [put_same,vpc_same]
  ·rw [if_neg (by intro e2;cases e2;exact e rfl)]
   show Rw.mk _ _ (vpc v (Oc.ag c) u (Oc.ag k)) (put ag c r k).length ((put ag c r k).map _) = _
   rw [put_other _ _ _ _ e,vpc_other _ _ _ _ (by intro e2;cases e2;exact e rfl)]
   rfl
end
end LW
end Go.Proofs.Ytfbnakmmmphedaa
