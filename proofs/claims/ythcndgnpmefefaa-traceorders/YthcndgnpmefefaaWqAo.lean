/-
  Om, Wq in one.
-/
import Derived.Test.YthcndgnpmefefaaCkAo
import Derived.Test.YthcndgnpmefefaaDnAo
set_option linter.unusedVariables false
set_option linter.unusedSimpArgs false
set_option maxRecDepth 100000
namespace Go.Proofs.Ythcndgnpmefefaa
open Mc Go.RowKit
namespace LW
def ups {α : Type} (f : Bool → Nat → α) (s : Bool) (j : Nat) (u : α) : Bool → Nat → α:=fun s' i => if s' = s ∧ i = j then u else f s' i
theorem ups_same {α : Type} (f : Bool → Nat → α) (s : Bool) (j : Nat) (u : α) : ups f s j u s j = u:=if_pos ⟨rfl,rfl⟩
theorem ups_other {α : Type} (f : Bool → Nat → α) (s s' : Bool) (j i : Nat) (u : α) (h : ¬ (s' = s ∧ i = j)) : ups f s j u s' i = f s' i:=if_neg h
def fO (n : Bool → Nat) (hd : Bool → Value) (hv vs : Bool → Nat → Value) (cs : Bool → Nat → List Int) : Bool × Option Nat → Rw
 | (s,none) => ⟨23,1,hd s,n s,rwI (n s) (hv s)⟩
 | (s,some j) => ⟨3,1,vs s j,(cs s j).length,(cs s j).map (Value.int .i64)⟩
structure OM (W : World) (B : Nat) (n : Bool → Nat) (hd : Bool → Value) (hv vs : Bool → Nat → Value) (cs : Bool → Nat → List Int) : Prop where
 fam : Fam W B (fO n hd hv vs cs)
section
variable {W W1 : World} {B : Nat} {n : Bool → Nat} {hd : Bool → Value} {hv vs : Bool → Nat → Value} {cs : Bool → Nat → List Int}
theorem OM.below (h : OM W B n hd hv vs cs) (hb : Below W.heap.size W W1) : OM W1 B n hd hv vs cs:=⟨h.fam.below hb⟩
theorem OM.cong {cs' : Bool → Nat → List Int} (h : OM W B n hd hv vs cs) (e : ∀ s j,cs' s j = cs s j) : OM W B n hd hv vs cs':=by
 have : cs' = cs:=funext fun s => funext (e s)
 rw [this]
 exact h
theorem OM.hAt (h : OM W B n hd hv vs cs) (s : Bool) (j : Nat) (hj : j < n s) : ∃ b cap,hd s = .slice (some ⟨b,0,none⟩) (n s) cap ∧ B ≤ b ∧ W.cell? ⟨b,j,none⟩ = some (hv s j) ∧ W.frozen? ⟨b,j,none⟩ = false:=by
 have hl : j < (fO n hd hv vs cs (s,none)).con.length:=by show j < (rwI (n s) (hv s)).length;rw [rwI_len];exact hj
 obtain ⟨b,cap,e,h1,h2,h3⟩:=h.fam.cell (s,none) j hl
 refine ⟨b,cap,e,h1,?_,h3⟩
 rw [h2]
 show some ((rwI (n s) (hv s)).getD j (.bool false)) = _
 rw [List.getD_eq_getElem?_getD,rwI_get (n s) _ j hj]
 rfl
theorem OM.hIs (h : OM W B n hd hv vs cs) (s : Bool) : ∃ a c,hd s = .slice a (n s) c:=own_openE (h.fam.own (s,none))
theorem OM.rIs (h : OM W B n hd hv vs cs) (s : Bool) (j : Nat) : ∃ a c,vs s j = .slice a (cs s j).length c ∧ NR W a (cs s j):=by
 have ho : W.ownsRow B 3 1 (vs s j) (cs s j).length ((cs s j).map (Value.int .i64)):=h.fam.own (s,some j)
 exact nr_own9 ho
theorem OM.rCap (h : OM W B n hd hv vs cs) (s : Bool) (j : Nat) : ∃ a c,vs s j = .slice a (cs s j).length c ∧ (cs s j).length ≤ c ∧ (a = none → c = 0) ∧ c ≤ maxLen:=by
 have ho : W.ownsRow B 3 1 (vs s j) (cs s j).length ((cs s j).map (Value.int .i64)):=h.fam.own (s,some j)
 rcases ho.2 with ⟨e,h0⟩ | ⟨g,cap,cur,e,_,_,h1,h2,_⟩
 ·exact ⟨none,0,by rw [e,h0],by omega,fun _ => rfl,Nat.zero_le _⟩
 ·exact ⟨_,cap,e,h1,fun h => (by cases h),h2⟩
theorem fO_other (n : Bool → Nat) (hd : Bool → Value) (hv vs : Bool → Nat → Value) (cs : Bool → Nat → List Int) (s s' : Bool) (j i : Nat) (u : Value) (r : List Int) (h : ¬ (s' = s ∧ i = j)) : fO n hd hv (ups vs s j u) (ups cs s j r) (s',some i) = fO n hd hv vs cs (s',some i):=by
 unfold fO
 simp only [ups_other _ _ _ _ _ _ h]
theorem OM.appR (h : OM W B n hd hv vs cs) (s : Bool) (j : Nat) (xs : List Int) (u : Value) (ho : W1.ownsRow B 3 1 u ((cs s j).length + xs.length) ((cs s j).map (Value.int .i64) ++ xs.map (Value.int .i64))) (hg : W.grownBy W1 (vs s j).ownBlock) (hat : u.ownBlock = (vs s j).ownBlock ∨ u.ownBlock = some W.heap.size) : OM W1 B n hd hv (ups vs s j u) (ups cs s j (cs s j ++ xs)):=by
 have h1:=h.fam.grown (s,some j) ⟨3,1,u,(cs s j).length + xs.length,(cs s j).map (Value.int .i64) ++ xs.map (Value.int .i64)⟩ hg ho (hat.imp id (fun e b hb => by rw [e] at hb;injection hb with hb;omega))
 refine ⟨h1.congr (fun i => ?_)⟩
 obtain ⟨s',i⟩:=i
 rcases i with _ | i
 ·rw [upd_other _ _ _ _ (by intro e;cases e)];rfl
 ·by_cases e : s' = s ∧ i = j
  ·obtain ⟨rfl,rfl⟩:=e
   rw [upd_same]
   unfold fO
   simp only [ups_same,List.length_append,List.map_append]
  ·rw [upd_other _ _ _ _ (by intro e2;cases e2;exact e ⟨rfl,rfl⟩)]
   exact fO_other _ _ _ _ _ _ _ _ _ _ _ e
theorem OM.setH (h : OM W B n hd hv vs cs) (s : Bool) (j : Nat) (u : Value) {b c : Nat} (hvj : hd s = .slice (some ⟨b,0,none⟩) (n s) c) : OM (W.setCell ⟨b,j,none⟩ u) B n hd (ups hv s j u) vs cs:=by
 have h1:=h.fam.set (s,none) (b:=b) (n:=n s) (cap:=c) hvj rfl j u
 refine ⟨h1.congr (fun i => ?_)⟩
 obtain ⟨s',i⟩:=i
 rcases i with _ | i
 ·by_cases es : s' = s
  ·subst es
   rw [upd_same]
   unfold fO
   dsimp only
   congr 1
   unfold rwI
   apply List.ext_getElem?
   intro q
   rw [List.getElem?_set,List.getElem?_map,List.getElem?_map,List.length_map,List.length_range]
   by_cases hq : q < n s'
   ·rw [List.getElem?_range hq]
    by_cases e : j = q
    ·subst e
     rw [if_pos rfl,if_pos hq]
     simp [ups]
    ·rw [if_neg e]
     show some (ups hv s' j u s' q) = some (hv s' q)
     rw [ups_other _ _ _ _ _ _ (fun h => e h.2.symm)]
   ·rw [List.getElem?_eq_none (by simp;omega)]
    by_cases e : j = q
    ·rw [if_pos e,if_neg (by omega)];rfl
    ·rw [if_neg e];rfl
  ·rw [upd_other _ _ _ _ (by intro e;cases e;exact es rfl)]
   unfold fO
   dsimp only
   congr 2
   funext q
   exact ups_other _ _ _ _ _ _ (fun h => es h.1)
 ·rw [upd_other _ _ _ _ (by intro e;cases e)];rfl
theorem OM.cutR (h : OM W B n hd hv vs cs) (s : Bool) (j k : Nat) (hk : k ≤ (cs s j).length) {a : Option Addr} {c : Nat} (hv0 : vs s j = .slice a (cs s j).length c) : OM W B n hd hv (ups vs s j (.slice a k c)) (ups cs s j ((cs s j).take k)):=by
 have ho : W.ownsRow B 3 1 (vs s j) (cs s j).length ((cs s j).map (Value.int .i64)):=h.fam.own (s,some j)
 have hn : W.ownsRow B 3 1 (.slice a k c) k (((cs s j).take k).map (Value.int .i64)):=by
  rw [hv0] at ho
  refine ⟨by rw [List.length_map,List.length_take];omega,?_⟩
  rcases ho.2 with ⟨e,h0⟩ | ⟨g,cap,cur,e,h1,h2,h3,h4,h5,h6⟩
  ·injection e with e1 _ e3
   exact .inl ⟨by rw [e1,e3,show k = 0 by omega],by omega⟩
  ·injection e with e1 e2 e3
   refine .inr ⟨g,cap,cur,by rw [e1,e3],h1,h2,by omega,h4,h5,?_⟩
   rw [List.map_take,← h6,List.take_take]
   congr 1
   omega
 have hb : ∀ b,(Value.slice a k c).ownBlock = some b → (vs s j).ownBlock = some b:=fun b hb => by
  rw [hv0]
  cases a with
  | none => cases hb
  | some x => exact hb
 have e : ∀ i,(fO n hd hv (ups vs s j (.slice a k c)) (ups cs s j ((cs s j).take k)) i).In W B ∧ ∀ b,(fO n hd hv (ups vs s j (.slice a k c)) (ups cs s j ((cs s j).take k)) i).val.ownBlock = some b → (fO n hd hv vs cs i).val.ownBlock = some b:=fun i => by
  obtain ⟨s',i⟩:=i
  rcases i with _ | i
  ·exact ⟨h.fam.own (s',none),fun b hb => hb⟩
  ·by_cases e : s' = s ∧ i = j
   ·obtain ⟨rfl,rfl⟩:=e
    unfold fO Rw.In
    simp only [ups_same]
    refine ⟨?_,fun b hb2 => hb b hb2⟩
    rw [List.length_take,Nat.min_eq_left hk]
    exact hn
   ·rw [fO_other _ _ _ _ _ _ _ _ _ _ _ e]
    exact ⟨h.fam.own (s',some i),fun b hb => hb⟩
 exact ⟨⟨fun i => (e i).1,fun i i' b h1 h2 => h.fam.dis i i' b ((e i).2 b h1) ((e i').2 b h2)⟩⟩
end
theorem OM.start {W0 W1 W2 : World} {B n0 n1 : Nat} {h0 h1 : Value} (hB : B ≤ W0.heap.size) (hb : Below W0.heap.size W0 W1) (ho0 : W1.ownsRow W0.heap.size 23 1 h0 n0 (List.replicate n0 (.slice none 0 0))) (hb2 : Below W1.heap.size W1 W2) (ho1 : W2.ownsRow W1.heap.size 23 1 h1 n1 (List.replicate n1 (.slice none 0 0))) (s : Bool) : OM W2 B (fun x => if x = s then n0 else n1) (fun x => if x = s then h0 else h1) (fun _ _ => .slice none 0 0) (fun _ _ => .slice none 0 0) (fun _ _ => []):=by
 have g1:=Fam.none W0 B (fun i : Bool × Option Nat => match i with | (_,none) => 23 | (_,some _) => 3) (fun _ => 1)
 have g2:=g1.fresh (s,none) ⟨23,1,h0,n0,List.replicate n0 (.slice none 0 0)⟩ hb (own_baseL ho0 hB) (fun b e => own_blkI ho0 b e)
 have g3:=g2.fresh (!s,none) ⟨23,1,h1,n1,List.replicate n1 (.slice none 0 0)⟩ hb2 (own_baseL ho1 (Nat.le_trans hB hb.size)) (fun b e => own_blkI ho1 b e)
 have hr : ∀ m,rwI m (fun _ => Value.slice none 0 0) = List.replicate m (.slice none 0 0):=fun m => by
  unfold rwI
  apply List.ext_getElem?
  intro q
  rw [List.getElem?_map,List.getElem?_replicate]
  by_cases hq : q < m
  ·rw [List.getElem?_range hq,if_pos hq];rfl
  ·rw [List.getElem?_eq_none (by simp;omega),if_neg hq];rfl
 refine ⟨g3.congr (fun i => ?_)⟩
 obtain ⟨s',i⟩:=i
 rcases i with _ | i
 ·by_cases es : s' = s
  ·subst es
   rw [upd_other _ _ _ _ (by intro e;injection e with e;cases s' <;> cases e),upd_same]
   unfold fO
   simp [hr]
  ·have e2 : s' = !s:=by cases s' <;> cases s <;> simp_all
   subst e2
   rw [upd_same]
   unfold fO
   simp [hr,es]
 ·rw [upd_other _ _ _ _ (by intro e;cases e),upd_other _ _ _ _ (by intro e;cases e)];rfl
def tosE (ed : List Eg2) (j : Nat) : List Int:=(ed.filter (fun x => decide (x.1 = (j : Int)))).map (fun x => x.2)
theorem tosE_snoc (ed : List Eg2) (x : Eg2) (j : Nat) : tosE (ed ++ [x]) j = tosE ed j ++ if x.1 = (j : Int) then [x.2] else []:=by
 unfold tosE
 rw [List.filter_append,List.map_append]
 by_cases h : x.1 = (j : Int)
 ·rw [if_pos h,List.filter_cons,if_pos (decide_eq_true h)];rfl
 ·rw [if_neg h,List.filter_cons,if_neg (by rw [decide_eq_false h];decide)];rfl
theorem tosE_mem (ed : List Eg2) (j : Nat) (y : Int) : y ∈ tosE ed j ↔ ((j : Int),y) ∈ ed:=by
 unfold tosE
 rw [List.mem_map]
 constructor
 ·rintro ⟨x,h,rfl⟩
  obtain ⟨h1,h2⟩:=List.mem_filter.1 h
  have h2:=of_decide_eq_true h2
  rw [← h2]
  exact h1
 ·intro h
  exact ⟨_,List.mem_filter.2 ⟨h,decide_eq_true rfl⟩,rfl⟩
theorem tosE_ord {ed : List Eg2} (h : Ord ed) (j : Nat) : (tosE ed j).Pairwise (· < ·):=by
 unfold tosE
 rw [List.pairwise_map]
 have h1 : (ed.filter (fun x => decide (x.1 = (j : Int)))).Pairwise (fun a b => a.2 < b.2 ∨ (a.2 = b.2 ∧ a.1 < b.1)):=List.Pairwise.filter _ h
 refine List.Pairwise.imp_of_mem ?_ h1
 intro a b ha hb hab
 have h2:=of_decide_eq_true (List.mem_filter.1 ha).2
 have h3:=of_decide_eq_true (List.mem_filter.1 hb).2
 omega
def wtA (l : List Ev) (c : Int) (n : Nat) : List Int:=((List.range n).filter (fun i => decide ((Tr.ev l i).op = 11 ∧ (Tr.ev l i).a = c))).map (fun (i : Nat) => (i : Int))
theorem wtA_len (l : List Ev) (c : Int) (n : Nat) : (wtA l c n).length ≤ n:=by
 unfold wtA
 rw [List.length_map]
 have:=List.length_filter_le (fun i => decide ((Tr.ev l i).op = 11 ∧ (Tr.ev l i).a = c)) (List.range n)
 rw [List.length_range] at this
 exact this
theorem wtA_yes (l : List Ev) (c : Int) (n : Nat) (h : (Tr.ev l n).op = 11 ∧ (Tr.ev l n).a = c) : wtA l c (n + 1) = wtA l c n ++ [(n : Int)]:=by
 unfold wtA
 rw [List.range_succ,List.filter_append,List.map_append,List.filter_cons,if_pos (decide_eq_true h)]
 rfl
theorem wtA_no (l : List Ev) (c : Int) (n : Nat) (h : ¬ ((Tr.ev l n).op = 11 ∧ (Tr.ev l n).a = c)) : wtA l c (n + 1) = wtA l c n:=by
 unfold wtA
 rw [List.range_succ,List.filter_append,List.map_append,List.filter_cons,if_neg (by rw [decide_eq_false h];decide)]
 simp
theorem wtA_mem (l : List Ev) (c : Int) (n : Nat) (x : Int) : x ∈ wtA l c n ↔ ∃ i : Nat,x = (i : Int) ∧ i < n ∧ (Tr.ev l i).op = 11 ∧ (Tr.ev l i).a = c:=by
 unfold wtA
 rw [List.mem_map]
 constructor
 ·rintro ⟨i,h,rfl⟩
  obtain ⟨h1,h2⟩:=List.mem_filter.1 h
  exact ⟨i,rfl,List.mem_range.1 h1,of_decide_eq_true h2⟩
 ·rintro ⟨i,rfl,h1,h2⟩
  exact ⟨i,List.mem_filter.2 ⟨List.mem_range.2 h1,decide_eq_true h2⟩,rfl⟩
theorem wtA_ord (l : List Ev) (c : Int) (n : Nat) : (wtA l c n).Pairwise (· < ·):=by
 unfold wtA
 rw [List.pairwise_map]
 refine (List.Pairwise.filter _ List.pairwise_lt_range).imp ?_
 intro a b h
 omega
end LW
end Go.Proofs.Ythcndgnpmefefaa
set_option maxRecDepth 100000
namespace Go.Proofs.Ythcndgnpmefefaa
open Mc Go.RowKit
namespace LW
def nxK (R : Nat → List Int) (a t : Nat) : Nat:=(R a).countP (fun x => decide (x < (t : Int)))
def nxL (l : List Ev) (ed : List Eg2) (R : Nat → List Int) (t : Nat) : List Int :=
 if (Tr.ev l t).op = 10 then (tosE ed t ++ (R (Tr.ev l t).a.toNat).drop (nxK R (Tr.ev l t).a.toNat t)).mergeSort (fun x y => decide (x ≤ y)) else tosE ed t
def nxR (l : List Ev) (R : Nat → List Int) (t : Nat) : Nat → List Int :=
 if (Tr.ev l t).op = 10 then fun a => if a = (Tr.ev l t).a.toNat then (R a).take (nxK R a t) else R a else R
def kn (Q : List Eg2) : List Int:=Q.map (fun x => x.2)
def adQ (t : Int) (Q : List Eg2) (x : Int) : List Eg2:=if x ∈ kn Q then Q else Q ++ [(t,x)]
def nxQ (t : Int) (Q : List Eg2) (xs : List Int) : List Eg2:=xs.foldl (adQ t) Q
def qT (Q : List Eg2) (h : Nat) : Int:=(Q.getD h (0,0)).2
def Rch (l : List Ev) (ed : List Eg2) (i j : Nat) (R : Nat → List Int) (Q : List Eg2) (h : Nat) : Prop :=
 ∀ P : (Nat → List Int) → List Eg2 → Nat → Prop,P (fun a => wtA l (a : Int) l.length) [((i : Int),(i : Int))] 0 →
  (∀ R Q h,P R Q h → h < Q.length → qT Q h ≠ (j : Int) → P (nxR l R (qT Q h).toNat) (nxQ (qT Q h) Q (nxL l ed R (qT Q h).toNat)) (h + 1)) → P R Q h
theorem Rch.start (l : List Ev) (ed : List Eg2) (i j : Nat) : Rch l ed i j (fun a => wtA l (a : Int) l.length) [((i : Int),(i : Int))] 0:=fun P h _ => h
theorem Rch.step {l : List Ev} {ed : List Eg2} {i j : Nat} {R : Nat → List Int} {Q : List Eg2} {h : Nat} (H : Rch l ed i j R Q h) (h1 : h < Q.length) (h2 : qT Q h ≠ (j : Int)) : Rch l ed i j (nxR l R (qT Q h).toNat) (nxQ (qT Q h) Q (nxL l ed R (qT Q h).toNat)) (h + 1):=fun P p1 p2 => p2 _ _ _ (H P p1 p2) h1 h2
theorem kn_app (Q Q' : List Eg2) : kn (Q ++ Q') = kn Q ++ kn Q':=by unfold kn;exact List.map_append
theorem kn_len (Q : List Eg2) : (kn Q).length = Q.length:=by unfold kn;exact List.length_map _
theorem qT_get (Q : List Eg2) (h : Nat) (hh : h < Q.length) : (kn Q)[h]? = some (qT Q h):=by
 unfold kn qT
 rw [List.getElem?_map,List.getD_eq_getElem?_getD,List.getElem?_eq_getElem hh]
 rfl
theorem qT_mem (Q : List Eg2) (h : Nat) (hh : h < Q.length) : qT Q h ∈ kn Q:=List.mem_of_getElem? (qT_get Q h hh)
theorem kn_at {Q : List Eg2} {x : Int} (h : x ∈ kn Q) : ∃ k,k < Q.length ∧ qT Q k = x:=by
 obtain ⟨k,hk,e⟩:=List.mem_iff_getElem.1 h
 rw [kn_len] at hk
 refine ⟨k,hk,?_⟩
 have h2:=qT_get Q k hk
 rw [List.getElem?_eq_getElem (by rw [kn_len];exact hk),e] at h2
 injection h2 with h2
 exact h2.symm
theorem nxQ_is (t : Int) (xs : List Int) : ∀ Q : List Eg2,∃ ys : List Int,nxQ t Q xs = Q ++ ys.map (fun y => (t,y)) ∧ ys.Sublist xs ∧ ((kn Q).Nodup → (kn (nxQ t Q xs)).Nodup) ∧ (∀ x,x ∈ kn (nxQ t Q xs) ↔ x ∈ kn Q ∨ x ∈ xs):=by
 induction xs with
 | nil => exact fun Q => ⟨[],by simp [nxQ],List.Sublist.refl _,fun h => h,fun x => by simp [nxQ]⟩
 | cons x xs ih =>
  intro Q
  by_cases hx : x ∈ kn Q
  ·obtain ⟨ys,h1,h2,h3,h4⟩:=ih Q
   have e : nxQ t Q (x :: xs) = nxQ t Q xs:=by unfold nxQ;rw [List.foldl_cons,adQ,if_pos hx]
   rw [e]
   refine ⟨ys,h1,h2.cons x,h3,fun y => ?_⟩
   rw [h4 y]
   constructor
   ·rintro (h | h)
    ·exact .inl h
    ·exact .inr (List.mem_cons_of_mem _ h)
   ·rintro (h | h)
    ·exact .inl h
    ·rcases List.mem_cons.1 h with rfl | h
     ·exact .inl hx
     ·exact .inr h
  ·obtain ⟨ys,h1,h2,h3,h4⟩:=ih (Q ++ [(t,x)])
   have e : nxQ t Q (x :: xs) = nxQ t (Q ++ [(t,x)]) xs:=by unfold nxQ;rw [List.foldl_cons,adQ,if_neg hx]
   rw [e]
   refine ⟨x :: ys,by rw [h1];simp,h2.cons_cons x,fun h => h3 ?_,fun y => ?_⟩
   ·rw [kn_app]
    refine List.nodup_append.2 ⟨h,by simp [kn],fun a ha b hb => ?_⟩
    simp [kn] at hb
    rw [hb]
    rintro rfl
    exact hx ha
   ·rw [h4 y,kn_app]
    simp [kn]
    constructor
    ·rintro ((h | h) | h)
     ·exact .inl h
     ·exact .inr (.inl h)
     ·exact .inr (.inr h)
    ·rintro (h | h | h)
     ·exact .inl (.inl h)
     ·exact .inl (.inr h)
     ·exact .inr h
theorem nxQ_snoc (t : Int) (Q : List Eg2) (xs : List Int) (x : Int) : nxQ t Q (xs ++ [x]) = adQ t (nxQ t Q xs) x:=by unfold nxQ;rw [List.foldl_append];rfl
theorem cut_low (t : Int) : ∀ r : List Int,r.Pairwise (· < ·) → ∀ x,(x ∈ r.take (r.countP (fun x => decide (x < t))) ↔ x ∈ r ∧ x < t) ∧ (x ∈ r.drop (r.countP (fun x => decide (x < t))) ↔ x ∈ r ∧ t ≤ x):=by
 intro r
 induction r with
 | nil => intro _ x;simp
 | cons y r ih =>
  intro h x
  obtain ⟨h1,h2⟩:=List.pairwise_cons.1 h
  by_cases hy : y < t
  ·rw [List.countP_cons_of_pos (by exact decide_eq_true hy),List.take_succ_cons,List.drop_succ_cons]
   obtain ⟨a,b⟩:=ih h2 x
   constructor
   ·rw [List.mem_cons,a,List.mem_cons]
    constructor
    ·rintro (rfl | ⟨q1,q2⟩)
     ·exact ⟨.inl rfl,hy⟩
     ·exact ⟨.inr q1,q2⟩
    ·rintro ⟨rfl | q1,q2⟩
     ·exact .inl rfl
     ·exact .inr ⟨q1,q2⟩
   ·rw [b,List.mem_cons]
    constructor
    ·rintro ⟨q1,q2⟩
     exact ⟨.inr q1,q2⟩
    ·rintro ⟨rfl | q1,q2⟩
     ·omega
     ·exact ⟨q1,q2⟩
  ·have e : (y :: r).countP (fun x => decide (x < t)) = 0:=by
    rw [List.countP_eq_zero]
    intro z hz
    have : ¬ z < t:=by
     rcases List.mem_cons.1 hz with rfl | hz
     ·exact hy
     ·have:=h1 z hz;omega
    simp [this]
   rw [e,List.take_zero,List.drop_zero]
   refine ⟨⟨fun h => absurd h (by simp),?_⟩,⟨fun hx => ⟨hx,?_⟩,fun hx => hx.1⟩⟩
   ·rintro ⟨hx,hlt⟩
    rcases List.mem_cons.1 hx with rfl | hx
    ·exact absurd hlt hy
    ·have:=h1 x hx;omega
   ·rcases List.mem_cons.1 hx with rfl | hx
    ·omega
    ·have:=h1 x hx;omega
structure QI (s : Syst) (l : List Ev) (i j : Nat) (R : Nat → List Int) (Q : List Eg2) (h : Nat) : Prop where
 hl : h ≤ Q.length
 q0 : Q.head? = some ((i : Int),(i : Int))
 nd : (kn Q).Nodup
 lt : ∀ x,x ∈ kn Q → ∃ t : Nat,x = (t : Int) ∧ t < l.length
 st : ∀ k,0 < k → k < Q.length → ∃ a f t : Nat,a < k ∧ a < h ∧ qT Q a = (f : Int) ∧ Q.getD k (0,0) = ((f : Int),(t : Int)) ∧ Tr.Eg s l f t
 cl : ∀ a,a < h → ∀ f t : Nat,qT Q a = (f : Int) → Tr.Eg s l f t → t < l.length → (t : Int) ∈ kn Q
 nj : ∀ a,a < h → qT Q a ≠ (j : Int)
 rw : ∀ a,∃ c,R a = (wtA l (a : Int) l.length).take c
 rk : ∀ (a : Nat) (x : Int),x ∈ wtA l (a : Int) l.length → x ∉ R a → x ∈ kn Q
theorem qT_app (Q Q' : List Eg2) (a : Nat) (ha : a < Q.length) : qT (Q ++ Q') a = qT Q a:=by
 unfold qT
 rw [List.getD_eq_getElem?_getD,List.getD_eq_getElem?_getD,List.getElem?_append_left ha]
theorem QI.start (s : Syst) (l : List Ev) (i j : Nat) (hi : i < l.length) : QI s l i j (fun a => wtA l (a : Int) l.length) [((i : Int),(i : Int))] 0 where
 hl:=Nat.zero_le _
 q0:=rfl
 nd:=by simp [kn]
 lt:=fun x hx => by simp [kn] at hx;exact ⟨i,hx,hi⟩
 st:=fun k h1 h2 => by simp at h2;omega
 cl:=fun a h => by omega
 nj:=fun a h => by omega
 rw:=fun a => ⟨_,(List.take_length).symm⟩
 rk:=fun a x h1 h2 => absurd h1 h2
theorem nxL_mem {s : Syst} {l : List Ev} {ed : List Eg2} {R : Nat → List Int} {t : Nat} (hg : Tr.Gd s l l.length) (ho : Ok s) (hed : ∀ x,x ∈ ed ↔ x ∈ Tr.edF s l l.length) (hR : ∀ a,∃ c,R a = (wtA l (a : Int) l.length).take c) (ht : t < l.length) :
  (∀ x,x ∈ nxL l ed R t → ∃ y : Nat,x = (y : Int) ∧ y < l.length ∧ Tr.Eg s l t y) ∧ (∀ y : Nat,y < l.length → Tr.Eg s l t y → ((y : Int) ∈ nxL l ed R t ∨ ((Tr.ev l t).op = 10 ∧ (y : Int) ∈ wtA l ((Tr.ev l t).a.toNat : Int) l.length ∧ (y : Int) ∉ R (Tr.ev l t).a.toNat))):=by
 have hRm : ∀ c,0 ≤ s.rooms.getD c 0:=fun c => by
  by_cases h : c < s.rooms.length
  ·have:=(ho.rm c h).1;omega
  ·rw [List.getD_eq_getElem?_getD,List.getElem?_eq_none (by omega)];exact Int.le_refl _
 have hE : ∀ y : Nat,(y : Int) ∈ tosE ed t ↔ y < l.length ∧ Tr.EL s l t y:=fun y => by
  rw [tosE_mem,hed]
  exact Tr.edF_mem hg (Nat.le_refl _) hRm t y
 have hE2 : ∀ x,x ∈ tosE ed t → ∃ y : Nat,x = (y : Int) ∧ y < l.length ∧ Tr.EL s l t y:=fun x hx => by
  have h1:=(hed _).1 ((tosE_mem ed t x).1 hx)
  obtain ⟨f,y,h2⟩:=edF_nat s l _ _ h1
  injection h2 with h3 h4
  subst h4
  exact ⟨y,rfl,(hE y).1 hx⟩
 by_cases h10 : (Tr.ev l t).op = 10
 ·have ha : 0 ≤ (Tr.ev l t).a:=by
   have hfit : Tr.FitE s (l.take t) (Tr.ev l t):=hg t ht
   have:=(hfit.a s.groups (by unfold Tr.mnC;rw [if_neg (by rw [h10];decide),if_neg (by rw [h10];decide),if_pos (by rw [h10];decide)])).1
   exact this
  obtain ⟨A,hA⟩ : ∃ A : Nat,(Tr.ev l t).a = (A : Int):=⟨(Tr.ev l t).a.toNat,by omega⟩
  have hA2 : (Tr.ev l t).a.toNat = A:=by omega
  unfold nxL
  rw [if_pos h10,hA2]
  obtain ⟨c,hc⟩:=hR A
  have hord : (R A).Pairwise (· < ·):=by rw [hc];exact List.Pairwise.sublist (List.take_sublist _ _) (wtA_ord l _ _)
  have hcut:=cut_low (t : Int) (R A) hord
  constructor
  ·intro x hx
   rw [List.mem_mergeSort,List.mem_append] at hx
   rcases hx with hx | hx
   ·obtain ⟨y,h1,h2,h3⟩:=hE2 x hx
    exact ⟨y,h1,h2,.inl h3⟩
   ·obtain ⟨h1,h2⟩:=(hcut x).2.1 hx
    rw [hc] at h1
    obtain ⟨y,h3,h4,h5,h6⟩:=(wtA_mem l _ _ x).1 (List.mem_of_mem_take h1)
    refine ⟨y,h3,h4,.inr ⟨?_,h5,h10,by rw [hA,h6]⟩⟩
    have : y ≠ t:=by
     rintro rfl
     rw [h10] at h5
     exact absurd h5 (by decide)
    omega
  ·intro y hy he
   rcases he with he | ⟨h1,h2,_,h4⟩
   ·exact .inl (by rw [List.mem_mergeSort,List.mem_append];exact .inl ((hE y).2 ⟨hy,he⟩))
   ·have hw : (y : Int) ∈ wtA l (A : Int) l.length:=(wtA_mem l _ _ _).2 ⟨y,rfl,hy,h2,by rw [← h4,hA]⟩
    by_cases hyR : (y : Int) ∈ R A
    ·exact .inl (by rw [List.mem_mergeSort,List.mem_append];exact .inr ((hcut _).2.2 ⟨hyR,by omega⟩))
    ·exact .inr ⟨h10,hw,hyR⟩
 ·unfold nxL
  rw [if_neg h10]
  refine ⟨fun x hx => ?_,fun y hy he => ?_⟩
  ·obtain ⟨y,h1,h2,h3⟩:=hE2 x hx
   exact ⟨y,h1,h2,.inl h3⟩
  ·rcases he with he | ⟨_,_,h3,_⟩
   ·exact .inl ((hE y).2 ⟨hy,he⟩)
   ·exact absurd h3 h10
theorem nxR_cut {l : List Ev} {R : Nat → List Int} {t : Nat} (hR : ∀ a,∃ c,R a = (wtA l (a : Int) l.length).take c) : ∀ a,∃ c,nxR l R t a = (wtA l (a : Int) l.length).take c:=by
 intro a
 unfold nxR
 obtain ⟨c,hc⟩:=hR a
 by_cases h10 : (Tr.ev l t).op = 10
 ·rw [if_pos h10]
  by_cases e : a = (Tr.ev l t).a.toNat
  ·rw [if_pos e]
   generalize nxK R a t = k
   rw [hc,List.take_take]
   exact ⟨_,rfl⟩
  ·rw [if_neg e]
   exact ⟨c,hc⟩
 ·rw [if_neg h10]
  exact ⟨c,hc⟩
theorem nxR_told {l : List Ev} {ed : List Eg2} {R : Nat → List Int} {t : Nat} (a : Nat) (x : Int) (h1 : x ∈ R a) (h2 : x ∉ nxR l R t a) : x ∈ nxL l ed R t:=by
 unfold nxR at h2
 unfold nxL
 by_cases h10 : (Tr.ev l t).op = 10
 ·rw [if_pos h10] at h2 ⊢
  by_cases e : a = (Tr.ev l t).a.toNat
  ·rw [if_pos e] at h2
   subst e
   rw [List.mem_mergeSort,List.mem_append]
   refine .inr ?_
   rw [← List.take_append_drop (nxK R (Tr.ev l t).a.toNat t) (R (Tr.ev l t).a.toNat)] at h1
   rcases List.mem_append.1 h1 with h | h
   ·exact absurd h h2
   ·exact h
  ·rw [if_neg e] at h2
   exact absurd h1 h2
 ·rw [if_neg h10] at h2
  exact absurd h1 h2
theorem QI.step {s : Syst} {l : List Ev} {ed : List Eg2} {i j : Nat} {R : Nat → List Int} {Q : List Eg2} {h : Nat} (hg : Tr.Gd s l l.length) (ho : Ok s) (hed : ∀ x,x ∈ ed ↔ x ∈ Tr.edF s l l.length) (H : QI s l i j R Q h) (h1 : h < Q.length) (h2 : qT Q h ≠ (j : Int)) : QI s l i j (nxR l R (qT Q h).toNat) (nxQ (qT Q h) Q (nxL l ed R (qT Q h).toNat)) (h + 1):=by
 obtain ⟨t,ht,htn⟩:=H.lt _ (qT_mem Q h h1)
 have e0 : (qT Q h).toNat = t:=by rw [ht];rfl
 rw [e0]
 obtain ⟨m1,m2⟩:=nxL_mem hg ho hed H.rw htn
 obtain ⟨ys,e1,hsub,hnd,hmem⟩:=nxQ_is (qT Q h) (nxL l ed R t) Q
 have hq : ∀ a,a < Q.length → qT (nxQ (qT Q h) Q (nxL l ed R t)) a = qT Q a:=fun a ha => by rw [e1];exact qT_app Q _ a ha
 refine ⟨?_,?_,hnd H.nd,?_,?_,?_,?_,nxR_cut H.rw,?_⟩
 ·rw [e1,List.length_append];omega
 ·rw [e1]
  have:=H.q0
  cases Q with
  | nil => cases this
  | cons x Q => exact this
 ·intro x hx
  rcases (hmem x).1 hx with hx | hx
  ·exact H.lt x hx
  ·obtain ⟨y,q1,q2,_⟩:=m1 x hx
   exact ⟨y,q1,q2⟩
 ·intro k k0 kl
  by_cases hk : k < Q.length
  ·obtain ⟨a,f,t2,q1,q2,q3,q4,q5⟩:=H.st k k0 hk
   refine ⟨a,f,t2,q1,by omega,by rw [hq a (by omega)];exact q3,?_,q5⟩
   rw [e1,List.getD_eq_getElem?_getD,List.getElem?_append_left hk,← List.getD_eq_getElem?_getD]
   exact q4
  ·rw [e1,List.length_append,List.length_map] at kl
   have hy : k - Q.length < ys.length:=by omega
   have hin : ys[k - Q.length] ∈ nxL l ed R t:=hsub.subset (List.getElem_mem hy)
   obtain ⟨y,q1,q2,q3⟩:=m1 _ hin
   refine ⟨h,t,y,by omega,by omega,by rw [hq h h1];exact ht,?_,q3⟩
   rw [e1,List.getD_eq_getElem?_getD,List.getElem?_append_right (by omega),List.getElem?_map,List.getElem?_eq_getElem hy,q1,ht]
   rfl
 ·intro a ha f t2 q1 q2 q3
  rw [hmem]
  by_cases e : a = h
  ·subst e
   rw [hq a h1,ht] at q1
   have : f = t:=by omega
   subst this
   rcases m2 t2 q3 q2 with h | ⟨_,h,h'⟩
   ·exact .inr h
   ·exact .inl (H.rk _ _ h h')
  ·have ha : a < h:=by omega
   rw [hq a (by omega)] at q1
   exact .inl (H.cl a ha f t2 q1 q2 q3)
 ·intro a ha
  by_cases e : a = h
  ·subst e
   rw [hq a h1]
   exact h2
  ·rw [hq a (by omega)]
   exact H.nj a (by omega)
 ·intro a x hx hx2
  rw [hmem]
  by_cases hxR : x ∈ R a
  ·exact .inr (nxR_told a x hxR hx2)
  ·exact .inl (H.rk a x hx hxR)
theorem Rch.inv {s : Syst} {l : List Ev} {ed : List Eg2} {i j : Nat} {R : Nat → List Int} {Q : List Eg2} {h : Nat} (hg : Tr.Gd s l l.length) (ho : Ok s) (hed : ∀ x,x ∈ ed ↔ x ∈ Tr.edF s l l.length) (hi : i < l.length) (H : Rch l ed i j R Q h) : QI s l i j R Q h :=
 H (QI s l i j) (QI.start s l i j hi) (fun _ _ _ h0 h1 h2 => h0.step hg ho hed h1 h2)
theorem nodup_len : ∀ (n : Nat) (l : List Int),l.Nodup → (∀ x,x ∈ l → 0 ≤ x ∧ x < (n : Int)) → l.length ≤ n:=by
 intro n
 induction n with
 | zero =>
  intro l _ h
  cases l with
  | nil => exact Nat.le_refl _
  | cons x l => have:=h x List.mem_cons_self;omega
 | succ n ih =>
  intro l hn h
  have h1:=ih (l.erase (n : Int)) (hn.erase _) (fun x hx => by
   have h2:=(hn.mem_erase_iff).1 hx
   have h3:=h x h2.2
   have h4 : x ≠ (n : Int):=h2.1
   omega)
  rw [List.length_erase] at h1
  split at h1 <;> omega
theorem QI.len {s : Syst} {l : List Ev} {i j : Nat} {R : Nat → List Int} {Q : List Eg2} {h : Nat} (H : QI s l i j R Q h) : Q.length ≤ l.length:=by
 rw [← kn_len]
 exact nodup_len l.length (kn Q) H.nd (fun x hx => by
  obtain ⟨t,h1,h2⟩:=H.lt x hx
  omega)
theorem QI.none {s : Syst} {l : List Ev} {i j : Nat} {R : Nat → List Int} {Q : List Eg2} {h : Nat} (H : QI s l i j R Q h) (he : h = Q.length) (hj : j < l.length) : ¬ Tr.Bf s l i j:=by
 intro hb
 have key : ∀ y : Nat,Tr.Bf s l i y → y < l.length → (y : Int) ∈ kn Q:=by
  have h0 : (i : Int) ∈ kn Q:=by
   have:=H.q0
   cases Q with
   | nil => cases this
   | cons x Q =>
    injection this with this
    subst this
    exact List.mem_cons_self
  have stp : ∀ x y : Nat,(x : Int) ∈ kn Q → Tr.Eg s l x y → y < l.length → (y : Int) ∈ kn Q:=fun x y hx he2 hy => by
   obtain ⟨k,hk,e⟩:=kn_at hx
   exact H.cl k (by omega) x y e he2 hy
  intro y hy
  induction hy with
  | single h1 => exact fun hl => stp i _ h0 h1 hl
  | tail h1 h2 ih => exact fun hl => stp _ _ (ih (by have:=h2.lt;omega)) h2 hl
 obtain ⟨k,hk,e⟩:=kn_at (key j hb hj)
 exact H.nj k (by omega) e
end LW
end Go.Proofs.Ythcndgnpmefefaa
