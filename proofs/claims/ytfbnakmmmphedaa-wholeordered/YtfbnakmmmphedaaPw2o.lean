/-
 The pool's runs: each leaf is hashed once and folded once, and the one is before the other.
-/
import Derived.Test.YtfbnakmmmphedaaPqAo
import Derived.Test.YtfbnakmmmphedaaTrAo
set_option linter.unusedVariables false
set_option linter.unusedSimpArgs false
namespace Go.Proofs.Ytfbnakmmmphedaa
open List renaming getD_eq_getElem?_getD → gDQ
open Go
namespace Mc
namespace PQ
def Hs (evs : List Ev) (i : Nat) (v : Int) : Prop:=i < evs.length ∧ (Tr.ev evs i).op = 15 ∧ (Tr.ev evs i).a = 0 ∧ (Tr.ev evs i).value = v
def Fs (evs : List Ev) (i : Nat) (v : Int) : Prop:=i < evs.length ∧ (Tr.ev evs i).op = 15 ∧ (Tr.ev evs i).a ≠ 0 ∧ (Tr.ev evs i).value = v
theorem ev_l (l : List Ev) (e : Ev) (i : Nat) (h : i < l.length) : Tr.ev (l ++ [e]) i = Tr.ev l i:=by
 unfold Tr.ev
 rw [gDQ,List.getElem?_append_left h,← gDQ]
theorem ev_r (l : List Ev) (e : Ev) : Tr.ev (l ++ [e]) l.length = e:=by
 unfold Tr.ev
 rw [gDQ,List.getElem?_append_right (Nat.le_refl _),Nat.sub_self]
 rfl
theorem getD_al {l : List Int} {x : Int} {p : Nat} (h : p < l.length) : (l ++ [x]).getD p 0 = l.getD p 0:=by
 rw [gDQ,List.getElem?_append_left h,← gDQ]
theorem getD_ar (l : List Int) (x : Int) : (l ++ [x]).getD l.length 0 = x:=by
 rw [gDQ,List.getElem?_append_right (Nat.le_refl _),Nat.sub_self]
 rfl
theorem take_l (l : List Ev) (e : Ev) (i : Nat) (h : i ≤ l.length) : (l ++ [e]).take i = l.take i:=List.take_append_of_le_length h
theorem take_all (l : List Ev) (e : Ev) : (l ++ [e]).take l.length = l:=by
 rw [take_l _ _ _ (Nat.le_refl _),List.take_length]
theorem Hs.more {evs : List Ev} {i : Nat} {v : Int} (h : Hs evs i v) (e : Ev) : Hs (evs ++ [e]) i v:=by
 obtain ⟨h1,h2,h3,h4⟩:=h
 refine ⟨by rw [List.length_append];omega,?_,?_,?_⟩ <;> rw [ev_l _ _ _ h1] <;> assumption
theorem bf_more {s : Syst} {evs : List Ev} {i j : Nat} (h : Tr.Bf s evs i j) (hj : j < evs.length) (e : Ev) : Tr.Bf s (evs ++ [e]) i j:=by
 have hE : ∀ x y,y < evs.length → Tr.Eg s evs x y → Tr.Eg s (evs ++ [e]) x y:=fun x y hy hxy => by
  have h1:=Tr.Eg_take s (evs ++ [e]) evs.length x y hy
  rw [take_all] at h1;exact h1.1 hxy
 induction h with
 | single h1 => exact .single (hE _ _ hj h1)
 | tail h1 h2 ih => exact Relation.TransGen.tail (ih (Nat.lt_trans h2.lt hj)) (hE _ _ hj h2)
structure KV (s : Syst) (rns : List Rn) (h1 : List Int) (evs : List Ev) : Prop where
 fi : Tr.snC evs 1 = Tr.tkC evs 1 + h1.length
 k1 : ∀ j,1 ≤ j → j < rns.length → ∀ v,ph v (rns.getD j r0) ≠ 0 → ∃ i,Hs evs i v ∧ (Tr.ev evs i).who = j
 k2 : ∀ p,p < h1.length → ∃ i j,Hs evs i (h1.getD p 0) ∧ j < evs.length ∧ Tr.Bf s evs i j ∧ (Tr.ev evs j).op = 5 ∧ (Tr.ev evs j).a = 1 ∧ Tr.snC (evs.take j) 1 = Tr.tkC evs 1 + p
 k3 : ∀ v,ph v (rns.getD 0 r0) ≠ 0 → ∃ i j,Hs evs i v ∧ j < evs.length ∧ Tr.Bf s evs i j ∧ (Tr.ev evs j).who = 0
 k4 : ∀ j v,Fs evs j v → ∃ i,Hs evs i v ∧ Tr.Bf s evs i j
theorem KV.m1 {s : Syst} {rns : List Rn} {h1 : List Int} {evs : List Ev} (h : KV s rns h1 evs) (e : Ev) : ∀ j,1 ≤ j → j < rns.length → ∀ v,ph v (rns.getD j r0) ≠ 0 → ∃ i,Hs (evs ++ [e]) i v ∧ (Tr.ev (evs ++ [e]) i).who = j:=fun j h1 h2 v h3 => by
 obtain ⟨i,h4,h5⟩:=h.k1 j h1 h2 v h3
 exact ⟨i,h4.more e,by rw [ev_l _ _ _ h4.1];exact h5⟩
theorem KV.m2 {s : Syst} {rns : List Rn} {h1 : List Int} {evs : List Ev} (h : KV s rns h1 evs) (e : Ev) : ∀ p,p < h1.length → ∃ i j,Hs (evs ++ [e]) i (h1.getD p 0) ∧ j < evs.length ∧ Tr.Bf s (evs ++ [e]) i j ∧ (Tr.ev (evs ++ [e]) j).op = 5 ∧ (Tr.ev (evs ++ [e]) j).a = 1 ∧ Tr.snC ((evs ++ [e]).take j) 1 = Tr.tkC evs 1 + p:=fun p hp => by
 obtain ⟨i,j,a1,a2,a3,a4,a5,a6⟩:=h.k2 p hp
 exact ⟨i,j,a1.more e,a2,bf_more a3 a2 e,by rw [ev_l _ _ _ a2];exact a4,by rw [ev_l _ _ _ a2];exact a5,by rw [take_l _ _ _ (Nat.le_of_lt a2)];exact a6⟩
theorem KV.m3 {s : Syst} {rns : List Rn} {h1 : List Int} {evs : List Ev} (h : KV s rns h1 evs) (e : Ev) : ∀ v,ph v (rns.getD 0 r0) ≠ 0 → ∃ i j,Hs (evs ++ [e]) i v ∧ j < evs.length ∧ Tr.Bf s (evs ++ [e]) i j ∧ (Tr.ev (evs ++ [e]) j).who = 0:=fun v hv => by
 obtain ⟨i,j,a1,a2,a3,a4⟩:=h.k3 v hv
 exact ⟨i,j,a1.more e,a2,bf_more a3 a2 e,by rw [ev_l _ _ _ a2];exact a4⟩
theorem KV.m4 {s : Syst} {rns : List Rn} {h1 : List Int} {evs : List Ev} (h : KV s rns h1 evs) (e : Ev) : ∀ j v,j < evs.length → Fs (evs ++ [e]) j v → ∃ i,Hs (evs ++ [e]) i v ∧ Tr.Bf s (evs ++ [e]) i j:=fun j v hj hf => by
 obtain ⟨_,a2,a3,a4⟩:=hf
 rw [ev_l _ _ _ hj] at a2 a3 a4
 obtain ⟨i,a1,a2⟩:=h.k4 j v ⟨hj,a2,a3,a4⟩
 exact ⟨i,a1.more e,bf_more a2 hj e⟩
theorem Fs.last {evs : List Ev} {e : Ev} {j : Nat} {v : Int} (h : Fs (evs ++ [e]) j v) : j < evs.length ∨ (j = evs.length ∧ e.op = 15 ∧ e.a ≠ 0 ∧ e.value = v):=by
 obtain ⟨a1,a2,a3,a4⟩:=h
 by_cases hj : j < evs.length
 ·exact .inl hj
 ·rw [List.length_append,List.length_singleton] at a1
  obtain rfl : j = evs.length:=by omega
  rw [ev_r] at a2 a3 a4;exact .inr ⟨rfl,a2,a3,a4⟩
theorem KV.plain {s : Syst} {rns : List Rn} {h1 : List Int} {evs : List Ev} (h : KV s rns h1 evs) {rns' : List Rn} {e : Ev} (hp : ∀ j v,ph v (rns'.getD j r0) ≠ 0 → j < rns.length ∧ ph v (rns.getD j r0) ≠ 0) (e5 : ¬ (e.op = 5 ∧ e.a = 1)) (e6 : ¬ (e.op = 6 ∧ e.shut = false ∧ e.a = 1)) (e15 : ¬ (e.op = 15 ∧ e.a ≠ 0)) : KV s rns' h1 (evs ++ [e]):=by
 have ht : Tr.tkC (evs ++ [e]) 1 = Tr.tkC evs 1:=by rw [Tr.tkC_snoc,if_neg e6];rfl
 refine ⟨?_,fun j a1 a2 v a3 => ?_,fun p hp => ?_,fun v a1 => ?_,fun j v hf => ?_⟩
 ·rw [ht,Tr.snC_snoc,if_neg e5];exact h.fi
 ·obtain ⟨b1,b2⟩:=hp j v a3
  exact h.m1 e j a1 b1 v b2
 ·obtain ⟨i,j,a1,a2,a3⟩:=h.m2 e p hp
  rw [ht];exact ⟨i,j,a1,by rw [List.length_append];omega,a3⟩
 ·obtain ⟨b1,b2⟩:=hp 0 v a1
  obtain ⟨i,j,a1,a2,a3⟩:=h.m3 e v b2
  exact ⟨i,j,a1,by rw [List.length_append];omega,a3⟩
 ·rcases hf.last with hj | ⟨_,b1,b2,_⟩
  ·exact h.m4 e j v hj hf
  ·exact absurd ⟨b1,b2⟩ e15
theorem ph_set {rns : List Rn} {k : Nat} {r' : Rn} (hk : k < rns.length) (h : ∀ v,ph v r' ≠ 0 → ph v (rns.getD k r0) ≠ 0) : ∀ j v,ph v ((rns.set k r').getD j r0) ≠ 0 → j < rns.length ∧ ph v (rns.getD j r0) ≠ 0:=fun j v hv => by
 rw [getD_set] at hv
 by_cases hjk : k = j
 ·subst hjk
  rw [if_pos ⟨rfl,hk⟩] at hv;exact ⟨hk,h v hv⟩
 ·rw [if_neg (fun hh => hjk hh.1)] at hv
  refine ⟨?_,hv⟩
  by_cases hj : j < rns.length
  ·exact hj
  ·exfalso
   rw [gDQ,List.getElem?_eq_none (by omega)] at hv
   exact hv (by simp [ph,r0])
theorem ph_app {rns : List Rn} {x : Rn} (h : ∀ v,ph v x = 0) : ∀ j v,ph v ((rns ++ [x]).getD j r0) ≠ 0 → j < rns.length ∧ ph v (rns.getD j r0) ≠ 0:=fun j v hv => by
 by_cases hj : j < rns.length
 ·rw [getD_appL hj] at hv
  exact ⟨hj,hv⟩
 ·exfalso
  by_cases hj2 : j = rns.length
  ·subst hj2
   rw [getD_appR] at hv;exact hv (h v)
  ·rw [gDQ,List.getElem?_eq_none (by rw [List.length_append,List.length_singleton];omega)] at hv
   exact hv (by simp [ph,r0])
theorem KV.step {s : Syst} {n b : Int} {rns : List Rn} {h0 h1 h2 cells : List Int} {evs : List Ev} (h : KV s rns h1 evs) {k : Nat} (hk : k < rns.length) {rns' : List Rn} {h0' h1' h2' cells' : List Int} {e : Ev} (hn : Nw n b rns h0 h1 h2 cells k rns' h0' h1' h2' cells' e) : KV s rns' h1' (evs ++ [e]):=by
 have hlen : (evs ++ [e]).length = evs.length + 1:=by simp
 rcases hn with ⟨r',rfl,rfl,rfl,rfl,rfl,S,Q⟩ | ⟨r',x,rfl,rfl,rfl,rfl,rfl,rfl,S,S0,Q⟩ | ⟨R,x,hr,hR,k1,rfl,rfl,rfl,rfl,rfl,rfl⟩ | ⟨R,hr,hR,k1,rfl,rfl,rfl,rfl,rfl,rfl⟩ | ⟨R,hr,hR,k1,rfl,rfl,rfl,rfl,rfl,rfl⟩ | ⟨R,hr,hR,k1,rfl,rfl,rfl,rfl,rfl,rfl⟩ | ⟨R,hr,hR,k1,rfl,rfl,rfl,rfl,rfl,rfl⟩ | ⟨R,hr,hR,k1,hx,rfl,rfl,rfl,rfl,rfl,rfl⟩ | ⟨R,x,hr,hR,k1,rfl,rfl,rfl,rfl,rfl,rfl⟩ | ⟨R,hr,hR,k1,hx,rfl,rfl,rfl,rfl,rfl,rfl⟩ | ⟨R,hr,hR,k1,rfl,rfl,rfl,rfl,rfl,rfl⟩ | ⟨R,x,hr,hR,k1,rfl,rfl,rfl,rfl,rfl,rfl⟩ | ⟨R,hr,hR,k1,rfl,rfl,rfl,rfl,rfl,rfl⟩
 ·exact h.plain (ph_set hk fun v hv => by rw [S.ep v] at hv;exact hv) (fun q => Q.q5 q.1) (fun q => by have:=Q.q6 q.1;rw [q.2.1] at this;cases this) (fun q => Q.q15 q.1)
 ·refine h.plain (fun j v hv => ?_) (fun q => Q.q5 q.1) (fun q => by have:=Q.q6 q.1;rw [q.2.1] at this;cases this) (fun q => Q.q15 q.1)
  have h1:=ph_app (rns:=rns.set 0 r') (x:=x) (fun v => by rw [S0.ep v];simp [ph,r0]) j v hv
  exact ph_set hk (fun v hv => by rw [S.ep v] at hv;exact hv) j v h1.2
 ·exact h.plain (ph_set hk fun v hv => absurd (by simp [ph]) hv) (by simp) (by simp) (by simp)
 ·exact h.plain (ph_set hk fun v hv => absurd (by simp [ph]) hv) (by simp) (by simp) (by simp)
 ·-- it is hashed
  have ht : Tr.tkC (evs ++ [⟨k,15,0,R.getD 4 0,false⟩]) 1 = Tr.tkC evs 1:=by rw [Tr.tkC_snoc,if_neg (by simp)];rfl
  refine ⟨?_,fun j a1 a2 v a3 => ?_,fun p hp => ?_,fun v a1 => ?_,fun j v hf => ?_⟩
  ·rw [ht,Tr.snC_snoc,if_neg (by simp)];exact h.fi
  ·rw [List.length_set] at a2
   rw [getD_set] at a3;by_cases hjk : k = j
   ·subst hjk
    rw [if_pos ⟨rfl,hk⟩] at a3;have hv : R.getD 4 0 = v:=by
     by_cases hv : R.getD 4 0 = v
     ·exact hv
     ·exact absurd (by simp [-gDQ,ph,hv]) a3
    exact ⟨evs.length,⟨by rw [hlen];omega,by rw [ev_r],by rw [ev_r],by rw [ev_r];exact hv⟩,by rw [ev_r]⟩
   ·rw [if_neg (fun hh => hjk hh.1)] at a3
    exact h.m1 _ j a1 a2 v a3
  ·obtain ⟨i,j,a1,a2,a3⟩:=h.m2 ⟨k,15,0,R.getD 4 0,false⟩ p hp
   rw [ht];exact ⟨i,j,a1,by omega,a3⟩
  ·rw [getD_set,if_neg (fun hh => by omega)] at a1
   obtain ⟨i,j,a1,a2,a3⟩:=h.m3 ⟨k,15,0,R.getD 4 0,false⟩ v a1
   exact ⟨i,j,a1,by omega,a3⟩
  ·rcases hf.last with hj | ⟨_,b1,b2,_⟩
   ·exact h.m4 _ j v hj hf
   ·exact absurd rfl b2
 ·exact h.plain (ph_set hk fun v hv => by rw [hr];exact hv) (by simp) (by simp) (by simp)
 ·-- it is sent
  have ht : Tr.tkC (evs ++ [⟨k,5,1,R.getD 4 0,false⟩]) 1 = Tr.tkC evs 1:=by rw [Tr.tkC_snoc,if_neg (by simp)];rfl
  refine ⟨?_,fun j a1 a2 v a3 => ?_,fun p hp => ?_,fun v a1 => ?_,fun j v hf => ?_⟩
  ·rw [ht,Tr.snC_snoc,if_pos ⟨rfl,rfl⟩,h.fi,List.length_append,List.length_singleton];omega
  ·obtain ⟨b1,b2⟩:=ph_set (r':=⟨1,5,R,false⟩) hk (fun v hv => absurd (by simp [ph]) hv) j v a3
   exact h.m1 _ j a1 b1 v b2
  ·rw [ht]
   by_cases hp2 : p < h1.length
   ·obtain ⟨i,j,a1,a2,a3⟩:=h.m2 ⟨k,5,1,R.getD 4 0,false⟩ p hp2
    rw [getD_al hp2];exact ⟨i,j,a1,by omega,a3⟩
   ·rw [List.length_append,List.length_singleton] at hp
    obtain rfl : p = h1.length:=by omega
    obtain ⟨i,a1,a2⟩:=h.m1 ⟨k,5,1,R.getD 4 0,false⟩ k k1 hk (R.getD 4 0) (by rw [hr];simp [-gDQ,ph])
    have a3 : i < evs.length:=by
     have:=a1.1
     by_cases h9 : i < evs.length
     ·exact h9
     ·obtain rfl : i = evs.length:=by omega
      have h8:=a1.2.1
      rw [ev_r] at h8;exact absurd h8 (by simp)
    refine ⟨i,evs.length,?_,by omega,Tr.bf_own _ _ _ _ a3 (by omega) (by rw [a2,ev_r]),by rw [ev_r],by rw [ev_r],by rw [take_all];exact h.fi⟩
    rw [getD_ar];exact a1
  ·rw [getD_set,if_neg (fun hh => by omega)] at a1
   obtain ⟨i,j,a1,a2,a3⟩:=h.m3 ⟨k,5,1,R.getD 4 0,false⟩ v a1
   exact ⟨i,j,a1,by omega,a3⟩
  ·rcases hf.last with hj | ⟨_,b1,b2,_⟩
   ·exact h.m4 _ j v hj hf
   ·exact absurd b1 (by simp)
 ·exact h.plain (ph_set hk fun v hv => absurd (by simp [ph]) hv) (by simp) (by simp) (by simp)
 ·exact h.plain (ph_set hk fun v hv => absurd (by simp [ph]) hv) (by simp) (by simp) (by simp)
 ·exact h.plain (ph_set hk fun v hv => absurd (by simp [ph]) hv) (by simp) (by simp) (by simp)
 ·exact h.plain (ph_set hk fun v hv => absurd (by simp [ph]) hv) (by simp) (by simp) (by simp)
 ·-- it is taken
  subst k1;have ht : Tr.tkC (evs ++ [⟨(0 : Nat),6,1,x,false⟩]) 1 = Tr.tkC evs 1 + 1:=by rw [Tr.tkC_snoc,if_pos ⟨rfl,rfl,rfl⟩]
  have hfi:=h.fi
  rw [List.length_cons] at hfi;refine ⟨?_,fun j a1 a2 v a3 => ?_,fun p hp => ?_,fun v a1 => ?_,fun j v hf => ?_⟩
  ·rw [ht,Tr.snC_snoc,if_neg (by simp),hfi];omega
  ·rw [List.length_set] at a2
   rw [getD_set,if_neg (fun hh => by omega)] at a3
   exact h.m1 _ j a1 a2 v a3
  ·obtain ⟨i,j,a1,a2,a3,a4,a5,a6⟩:=h.m2 ⟨(0 : Nat),6,1,x,false⟩ (p + 1) (by rw [List.length_cons];omega)
   rw [ht];exact ⟨i,j,a1,by omega,a3,a4,a5,by omega⟩
  ·rw [getD_set,if_pos ⟨rfl,hk⟩] at a1
   have hv : x = v:=by
    by_cases hv : x = v
    ·exact hv
    ·exact absurd (by simp [-gDQ,ph,getD_set,hR,hv]) a1
   subst hv;obtain ⟨i,j,a1,a2,a3,a4,a5,a6⟩:=h.m2 ⟨(0 : Nat),6,1,x,false⟩ 0 (by simp)
   refine ⟨i,evs.length,a1,by omega,a3.more (.inl (.inr (.inr (.inl ⟨a2,by rw [ev_r],by rw [ev_r],a4,by rw [ev_r];exact a5,?_⟩)))),by rw [ev_r];rfl⟩
   rw [ev_r,take_all];exact a6
  ·rcases hf.last with hj | ⟨_,b1,b2,_⟩
   ·exact h.m4 _ j v hj hf
   ·exact absurd b1 (by simp)
 ·-- it is folded
  subst k1;have ht : Tr.tkC (evs ++ [⟨(0 : Nat),15,1,R.getD 3 0,false⟩]) 1 = Tr.tkC evs 1:=by rw [Tr.tkC_snoc,if_neg (by simp)];rfl
  refine ⟨?_,fun j a1 a2 v a3 => ?_,fun p hp => ?_,fun v a1 => ?_,fun j v hf => ?_⟩
  ·rw [ht,Tr.snC_snoc,if_neg (by simp)];exact h.fi
  ·rw [List.length_set] at a2
   rw [getD_set,if_neg (fun hh => by omega)] at a3
   exact h.m1 _ j a1 a2 v a3
  ·obtain ⟨i,j,a1,a2,a3⟩:=h.m2 ⟨(0 : Nat),15,1,R.getD 3 0,false⟩ p hp
   rw [ht];exact ⟨i,j,a1,by omega,a3⟩
  ·rw [getD_set,if_pos ⟨rfl,hk⟩] at a1
   exact absurd (by simp [ph]) a1
  ·rcases hf.last with hj | ⟨rfl,b1,b2,rfl⟩
   ·exact h.m4 _ j v hj hf
   ·obtain ⟨i,j,a1,a2,a3,a4⟩:=h.m3 ⟨(0 : Nat),15,1,R.getD 3 0,false⟩ (R.getD 3 0) (by rw [hr];simp [-gDQ,ph])
    exact ⟨i,a1,a3.trans (Tr.bf_own _ _ _ _ a2 (by omega) (by rw [a4,ev_r];rfl))⟩
theorem kv_first (s : Syst) : KV s [⟨0,0,List.replicate 8 0,false⟩] [] []:=by
 refine ⟨rfl,fun j h1 h2 => ?_,fun p hp => absurd hp (Nat.not_lt_zero _),fun v hv => absurd (by simp [ph]) hv,fun j v hf => absurd hf.1 (Nat.not_lt_zero _)⟩
 have : j < 1:=h2
 omega
theorem jv_first (n b : Int) (hb : 0 ≤ b) : JV n b [⟨0,0,List.replicate 8 0,false⟩] [] [] [] (List.replicate b.toNat 0) []:=by
 refine ⟨by simp [sm,lay];omega,fun x => ?_,fun v => ?_,fun v => ?_⟩
 ·simp [sm,PQ.hb,lay]
 ·simp [sm,lf,fed,ch,nF]
 ·simp [sm,ph,nF,nH]
theorem runJ {n a q b : Int} (hy : Hy n a q b) (picks : List Int) : ∀ (f : Nat) (rns : List Rn) (h0 h1 h2 : List Int) (z0 z1 g : Int) (cells : List Int) (evs : List Ev),IV n a b rns h0 h1 h2 z0 z1 g cells evs.length → JV n b rns h0 h1 h2 cells evs → KV (psys n a q b) rns h1 evs → 40001 ≤ f + evs.length →
  ∃ rns' h0' h1' h2' z0' z1' g' cells' evs',run (psys n a q b) picks f (pst rns h0 h1 h2 z0 z1 g cells evs) = (1,0,pst rns' h0' h1' h2' z0' z1' g' cells' evs') ∧ over (pst rns' h0' h1' h2' z0' z1' g' cells' evs') = true ∧ IV n a b rns' h0' h1' h2' z0' z1' g' cells' evs'.length ∧ JV n b rns' h0' h1' h2' cells' evs' ∧ KV (psys n a q b) rns' h1' evs'
 | 0,rns,h0,h1,h2,z0,z1,g,cells,evs,h,_,_,hf => by
  have:=IV.short hy h
  have y1:=hy.n0
  have y2:=hy.a0
  have y3:=hy.b0
  omega
 | f + 1,rns,h0,h1,h2,z0,z1,g,cells,evs,h,hJ,hK,hf => by
  have hs:=IV.short hy h
  have y1:=hy.n0
  have y2:=hy.a0
  have y3:=hy.b0
  rw [run];by_cases ho : over (pst rns h0 h1 h2 z0 z1 g cells evs) = true
  ·have hfin : fin (psys n a q b) (pst rns h0 h1 h2 z0 z1 g cells evs) = 1:=by unfold fin;rw [if_pos ho]
   rw [if_pos (by rw [hfin];decide),hfin]
   exact ⟨_,_,_,_,_,_,_,_,_,rfl,ho,h,hJ,hK⟩
  ·have hfin : fin (psys n a q b) (pst rns h0 h1 h2 z0 z1 g cells evs) = 0:=by
    unfold fin;rw [if_neg ho,if_neg (by show ¬ 40000 ≤ evs.length;omega),if_neg];intro hrd
    refine ho (alive hy h fun k hk => ?_)
    unfold ready at hrd;have h9:=List.filter_eq_nil_iff.1 hrd k (List.mem_range.2 hk)
    simpa using h9
   obtain ⟨hk,hc⟩:=turn_ok (picks:=picks) hfin
   obtain ⟨hb,rns',h0',h1',h2',z0',z1',g',cells',hst,hiv,hnw⟩:=go2 hy h hk hc
   rw [if_neg (by rw [hfin];decide),if_neg (by rw [hb];decide),hst]
   have hev : (evs ++ [ev (psys n a q b) (pst rns h0 h1 h2 z0 z1 g cells evs) (turn (psys n a q b) picks (pst rns h0 h1 h2 z0 z1 g cells evs))]).length = evs.length + 1:=by simp
   exact runJ hy picks f rns' h0' h1' h2' z0' z1' g' cells' _ (by rw [hev];exact hiv) (hJ.step h.cl hk hnw) (hK.step hk hnw) (by rw [hev];omega)
theorem only {p : Ev → Bool} {l : List Ev} (h : l.countP p ≤ 1) {i j : Nat} (hi : i < j) (hj : j < l.length) (h1 : p (Tr.ev l i) = true) (h2 : p (Tr.ev l j) = true) : False:=by
 have h3 : l.countP p = (l.take j).countP p + (l.drop j).countP p:=by rw [← List.countP_append,List.take_append_drop]
 have h4 : 0 < (l.take j).countP p:=by
  refine List.countP_pos_iff.2 ⟨Tr.ev l i,?_,h1⟩
  rw [← Tr.ev_take l j i hi];unfold Tr.ev
  rw [gDQ,List.getElem?_eq_getElem (by rw [List.length_take];omega)]
  exact List.getElem_mem _
 have h5 : 0 < (l.drop j).countP p:=by
  refine List.countP_pos_iff.2 ⟨Tr.ev l j,?_,h2⟩
  unfold Tr.ev
  rw [gDQ,List.getElem?_eq_getElem hj];exact List.mem_drop_iff_getElem.2 ⟨0,by omega,by simp⟩
 omega
theorem some_of {p : Ev → Bool} {l : List Ev} (h : 0 < l.countP p) : ∃ i,i < l.length ∧ p (Tr.ev l i) = true:=by
 obtain ⟨x,hx,hp⟩:=List.countP_pos_iff.1 h
 obtain ⟨i,hi,rfl⟩:=List.getElem_of_mem hx
 refine ⟨i,hi,?_⟩
 unfold Tr.ev
 rw [gDQ,List.getElem?_eq_getElem hi]
 exact hp
theorem playJ {n a q b : Int} (hy : Hy n a q b) (picks : List Int) : ∃ t,play (psys n a q b) picks = (1,0,t) ∧ (t.evs.length : Int) = 23 + 8 * a + 4 * b + 15 * n ∧ (t.rns.length : Int) = a + 3 ∧
  ∀ v,0 ≤ v → v < n → ∃ i j,Hs t.evs i v ∧ (∀ i',Hs t.evs i' v → i' = i) ∧ Fs t.evs j v ∧ (∀ j',Fs t.evs j' v → j' = j) ∧ Tr.Bf (psys n a q b) t.evs i j:=by
 have y1:=hy.n0
 have y2:=hy.a0
 have y3:=hy.b0
 obtain ⟨rns,h0,h1,h2,z0,z1,g,cells,evs,hrun,ho,hI,hJ,hK⟩:=runJ hy picks 40001 _ _ _ _ _ _ _ _ _ (iv_first hy) (jv_first n b (by omega)) (kv_first _) (by simp)
 have hd:=IV.done hy hI ho
 refine ⟨_,hrun,hd.1,hd.2,fun v v0 v1 => ?_⟩
 have hlb:=hI.lenb y2.1
 have hE : ∀ k,k < rns.length → (rns.getD k r0).ended = true:=fun k hk => of_over ho hk
 obtain ⟨p,R,hr,hR,hA⟩:=(hI.loc 0 hlb.1).c rfl
 have e0:=hE 0 hlb.1
 rw [hr] at e0
 obtain rfl : p = 15:=of_decide_eq_true e0
 have hx1 : h1 = []:=List.length_eq_zero_iff.1 (by unfold CA at hA;omega)
 obtain ⟨p1,R1,hr1,hR1,hA1⟩:=(hI.loc 1 (by omega)).w (Nat.le_refl _) (by omega)
 have e1:=hE 1 (by omega)
 rw [hr1] at e1
 obtain rfl : p1 = 8:=of_decide_eq_true e1
 have hx0 : h0 = []:=List.length_eq_zero_iff.1 (by unfold WA at hA1;omega)
 have hfk : (a + 1).toNat < rns.length:=by omega
 obtain ⟨pf,Rf,hrf,hRf,hAf⟩:=(hI.loc (a + 1).toNat hfk).f (by omega)
 have e2:=hE _ hfk
 rw [hrf] at e2
 obtain rfl : pf = 19:=of_decide_eq_true e2
 have hfd:=hI.one (fed n) (fun r hr => by simp [fed,hr]) hfk (by omega)
 rw [hrf] at hfd
 have hfd2 : sm (fed n) rns = n:=by rw [hfd];simp [fed]
 have s1:=sm_zero (lf cells v) rns (fun k hk => by unfold lf;rw [if_pos (hE k hk)])
 have s2:=sm_zero (ph v) rns (fun k hk => by unfold ph;rw [if_pos (hE k hk)])
 have f1:=hJ.lo v
 have f2:=hJ.ha v
 rw [hfd2,if_pos ⟨v0,v1⟩,s1,hx0,hx1] at f1
 rw [s2,hx1] at f2
 simp [ch] at f1 f2
 have f3 : nF evs v = 1:=by omega
 have f4 : nH evs v = 1:=by omega
 have uH : ∀ i i',i < i' → Hs evs i v → Hs evs i' v → False:=fun i i' hi a1 a2 => only (p:=fun e => decide (e.op = 15 ∧ e.a = 0 ∧ e.value = v)) (l:=evs) (by unfold nH at f4;omega) hi a2.1 (decide_eq_true a1.2) (decide_eq_true a2.2)
 have uF : ∀ i i',i < i' → Fs evs i v → Fs evs i' v → False:=fun i i' hi a1 a2 => only (p:=fun e => decide (e.op = 15 ∧ e.a ≠ 0 ∧ e.value = v)) (l:=evs) (by unfold nF at f3;omega) hi a2.1 (decide_eq_true a1.2) (decide_eq_true a2.2)
 obtain ⟨j,hj,hj2⟩:=some_of (p:=fun e => decide (e.op = 15 ∧ e.a ≠ 0 ∧ e.value = v)) (l:=evs) (by unfold nF at f3;omega)
 have hF : Fs evs j v:=⟨hj,of_decide_eq_true hj2⟩
 obtain ⟨i,hH,hB⟩:=hK.k4 j v hF
 refine ⟨i,j,hH,fun i' hi' => ?_,hF,fun j' hj' => ?_,hB⟩
 ·rcases Nat.lt_trichotomy i' i with h | h | h
  ·exact (uH _ _ h hi' hH).elim
  ·exact h
  ·exact (uH _ _ h hH hi').elim
 ·rcases Nat.lt_trichotomy j' j with h | h | h
  ·exact (uF _ _ h hj' hF).elim
  ·exact h
  ·exact (uF _ _ h hF hj').elim
end PQ
end Mc
end Go.Proofs.Ytfbnakmmmphedaa
