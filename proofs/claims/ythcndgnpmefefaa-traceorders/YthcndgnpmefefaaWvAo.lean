/-
  Wm, Wv, Wx in one.
-/
import Derived.Test.YthcndgnpmefefaaBtAo
import Derived.Test.YthcndgnpmefefaaWtAo
set_option linter.unusedVariables false
set_option linter.unusedSimpArgs false
set_option maxRecDepth 100000
namespace Go.Proofs.Ythcndgnpmefefaa
open Mc Go.RowKit
namespace LW
def fwS (s : Syst) (l : List Ev) (k : Nat) (F : Nat → Int) (q : Nat) : Int:=if (decide (0 ≤ F k) && @decide (Tr.Eg s l q k) (Tr.decE s l q k) && (decide (F q < 0) || decide (F k + 1 < F q))) = true then F k + 1 else F q
def fw (s : Syst) (l : List Ev) (j : Nat) : Nat → Nat → Int
 | 0 => fun q => if q = j then 0 else -1
 | c + 1 => fwS s l (j - c) (fw s l j c)
theorem fwS_or (s : Syst) (l : List Ev) (k : Nat) (F : Nat → Int) (q : Nat) : (fwS s l k F q = F k + 1 ∧ 0 ≤ F k ∧ Tr.Eg s l q k ∧ (F q < 0 ∨ F k + 1 < F q)) ∨ (fwS s l k F q = F q ∧ (0 ≤ F k → Tr.Eg s l q k → 0 ≤ F q ∧ F q ≤ F k + 1)):=by
 by_cases h1 : 0 ≤ F k
 ·by_cases h2 : Tr.Eg s l q k
  ·by_cases h3 : F q < 0 ∨ F k + 1 < F q
   ·exact .inl ⟨by unfold fwS;rw [if_pos (by simp [h1,h2,h3])],h1,h2,h3⟩
   ·refine .inr ⟨by unfold fwS;rw [if_neg (by simp;omega)],fun _ _ => by omega⟩
  ·exact .inr ⟨by unfold fwS;rw [if_neg (by simp [h2])],fun _ h => absurd h h2⟩
 ·exact .inr ⟨by unfold fwS;rw [if_neg (by simp [h1])],fun h _ => absurd h h1⟩
theorem fwS_high (s : Syst) (l : List Ev) (k : Nat) (F : Nat → Int) (q : Nat) (h : k ≤ q) : fwS s l k F q = F q:=by
 rcases fwS_or s l k F q with ⟨_,_,h2,_⟩ | ⟨h1,_⟩
 ·have:=h2.lt;omega
 ·exact h1
theorem fw_keep (s : Syst) (l : List Ev) (j c : Nat) (q : Nat) (h : j - c ≤ q) (d : Nat) : fw s l j (c + d) q = fw s l j c q:=by
 induction d with
 | zero => rfl
 | succ d ih =>
  rw [← ih]
  show fwS s l (j - (c + d)) (fw s l j (c + d)) q = _
  exact fwS_high _ _ _ _ _ (by omega)
theorem fw_j (s : Syst) (l : List Ev) (j c : Nat) : fw s l j c j = 0:=by
 have:=fw_keep s l j 0 j (by omega) c
 rw [Nat.zero_add] at this
 rw [this]
 exact if_pos rfl
theorem fw_bd (s : Syst) (l : List Ev) (j c q : Nat) : -1 ≤ fw s l j c q ∧ fw s l j c q ≤ c:=by
 induction c generalizing q with
 | zero =>
  show -1 ≤ (if q = j then (0 : Int) else -1) ∧ (if q = j then (0 : Int) else -1) ≤ ((0 : Nat) : Int)
  split <;> simp
 | succ c ih =>
  have h1:=ih q
  have h2:=ih (j - c)
  rcases fwS_or s l (j - c) (fw s l j c) q with ⟨h3,h4,_⟩ | ⟨h3,_⟩
  ·show -1 ≤ fwS _ _ _ _ _ ∧ fwS _ _ _ _ _ ≤ _
   rw [h3]
   omega
  ·show -1 ≤ fwS _ _ _ _ _ ∧ fwS _ _ _ _ _ ≤ _
   rw [h3]
   omega
theorem fw_back (s : Syst) (l : List Ev) (j c q : Nat) (h : 0 ≤ fw s l j c q) (hq : q ≠ j) : ∃ k,Tr.Eg s l q k ∧ j < k + c ∧ k ≤ j ∧ 0 ≤ fw s l j c k ∧ fw s l j c q = fw s l j c k + 1:=by
 induction c with
 | zero =>
  have h1 : fw s l j 0 q = -1:=if_neg hq
  omega
 | succ c ih =>
  have hk:=fw_keep s l j c (j - c) (Nat.le_refl _) 1
  rcases fwS_or s l (j - c) (fw s l j c) q with ⟨h3,h4,h5,_⟩ | ⟨h3,_⟩
  ·have h6 : fw s l j (c + 1) q = fw s l j c (j - c) + 1:=h3
   by_cases hc : c ≤ j
   ·exact ⟨j - c,h5,by omega,by omega,by rw [hk];exact h4,by rw [h6,hk]⟩
   ·exact ⟨j - c,h5,by omega,by omega,by rw [hk];exact h4,by rw [h6,hk]⟩
  ·have h6 : fw s l j (c + 1) q = fw s l j c q:=h3
   rw [h6] at h ⊢
   obtain ⟨k,a1,a2,a3,a4,a5⟩:=ih h
   have a6:=fw_keep s l j c k (by omega) 1
   exact ⟨k,a1,by omega,a3,by rw [a6];exact a4,by rw [a6];exact a5⟩
theorem fw_step (s : Syst) (l : List Ev) (j c k m : Nat) (hk : j < k + c) (hj : k ≤ j) (h : 0 ≤ fw s l j c k) (he : Tr.Eg s l m k) : 0 ≤ fw s l j c m ∧ fw s l j c m ≤ fw s l j c k + 1:=by
 induction c with
 | zero => omega
 | succ c ih =>
  have h9:=fw_keep s l j c k (by omega) 1
  rw [h9] at h ⊢
  by_cases e : k = j - c
  ·subst e
   rcases fwS_or s l (j - c) (fw s l j c) m with ⟨h3,h4,h5,_⟩ | ⟨h3,h4⟩
   ·have h6 : fw s l j (c + 1) m = fw s l j c (j - c) + 1:=h3
    rw [h6]
    omega
   ·have h6 : fw s l j (c + 1) m = fw s l j c m:=h3
    rw [h6]
    exact h4 h he
  ·have h1:=ih (by omega) h
   rcases fwS_or s l (j - c) (fw s l j c) m with ⟨h3,h4,h5,h7⟩ | ⟨h3,_⟩
   ·have h6 : fw s l j (c + 1) m = fw s l j c (j - c) + 1:=h3
    rw [h6]
    omega
   ·have h6 : fw s l j (c + 1) m = fw s l j c m:=h3
    rw [h6]
    exact h1
theorem bf_head {s : Syst} {l : List Ev} {m j : Nat} (h : Tr.Bf s l m j) : Tr.Eg s l m j ∨ ∃ b,Tr.Eg s l m b ∧ Tr.Bf s l b j:=by
 induction h with
 | single h => exact .inl h
 | tail _ h2 ih =>
  rcases ih with h | ⟨b,h,h3⟩
  ·exact .inr ⟨_,h,.one h2⟩
  ·exact .inr ⟨b,h,h3.more h2⟩
theorem fw_reach (s : Syst) (l : List Ev) (i j : Nat) (m : Nat) (h : Tr.Bf s l m j) (hm : i ≤ m) : 0 ≤ fw s l j (j - i + 1) m:=by
 obtain ⟨d,hd⟩ : ∃ d,j - m ≤ d:=⟨_,Nat.le_refl _⟩
 induction d generalizing m with
 | zero => have:=Tr.Bf.lt h;omega
 | succ d ih =>
  rcases bf_head h with h1 | ⟨b,h1,h2⟩
  ·exact (fw_step s l j _ j _ (by omega) (Nat.le_refl _) (by rw [fw_j];exact Int.le_refl _) h1).1
  ·have h3:=Tr.Eg.lt h1
   have h4:=Tr.Bf.lt h2
   exact (fw_step s l j _ b _ (by omega) (by omega) (ih b h2 (by omega) (by omega)) h1).1
def fwE (s : Syst) (l : List Ev) (i j : Nat) : Nat → Int:=fw s l j (j - i + 1)
theorem fwE_zero (s : Syst) (l : List Ev) (i j m : Nat) (h : fwE s l i j m = 0) : m = j:=by
 by_cases e : m = j
 ·exact e
 ·obtain ⟨k,_,_,_,h3,h4⟩:=fw_back s l j (j - i + 1) m (by show 0 ≤ fwE s l i j m;omega) e
  have : fwE s l i j m = fw s l j (j - i + 1) k + 1:=h4
  omega
def nxB (s : Syst) (l : List Ev) (F : Nat → Int) (at_ k : Nat) : Bool:=decide (0 ≤ F k) && decide (F k = F at_ - 1) && @decide (Tr.Eg s l at_ k) (Tr.decE s l at_ k)
theorem nxB_iff (s : Syst) (l : List Ev) (F : Nat → Int) (at_ k : Nat) : nxB s l F at_ k = true ↔ 0 ≤ F k ∧ F k = F at_ - 1 ∧ Tr.Eg s l at_ k:=by
 unfold nxB
 rw [Bool.and_eq_true,Bool.and_eq_true,decide_eq_true_eq,decide_eq_true_eq,@decide_eq_true_eq _ (Tr.decE s l at_ k)]
 exact ⟨fun h => ⟨h.1.1,h.1.2,h.2⟩,fun h => ⟨⟨h.1,h.2.1⟩,h.2.2⟩⟩
theorem fwE_next (s : Syst) (l : List Ev) (i j m : Nat) (hm : i ≤ m) (h : 0 < fwE s l i j m) : ∃ k,m < k ∧ k ≤ j ∧ nxB s l (fwE s l i j) m k = true:=by
 have hj : m ≠ j:=fun e => by
  have : fwE s l i j m = 0:=by rw [e];exact fw_j s l j _
  omega
 obtain ⟨k,h1,h2,h3,h4,h5⟩:=fw_back s l j (j - i + 1) m (by show 0 ≤ fwE s l i j m;omega) hj
 refine ⟨k,h1.lt,h3,?_⟩
 have h6 : fwE s l i j m = fwE s l i j k + 1:=h5
 have h7 : 0 ≤ fwE s l i j k:=h4
 exact (nxB_iff _ _ _ _ _).2 ⟨h7,by omega,h1⟩
def fstT (p : Nat → Bool) : Nat → Nat → Nat
 | 0,a => a
 | n + 1,a => if p a = true then a else fstT p n (a + 1)
theorem fstT_is (p : Nat → Bool) (n a k : Nat) (ha : a ≤ k) (hk : k ≤ a + n) (h : p k = true) : p (fstT p n a) = true ∧ a ≤ fstT p n a ∧ fstT p n a ≤ k ∧ ∀ q,a ≤ q → q < fstT p n a → p q = false:=by
 induction n generalizing a with
 | zero =>
  obtain rfl : k = a:=by omega
  exact ⟨h,Nat.le_refl _,Nat.le_refl _,fun q h1 h2 => by have : fstT p 0 k = k:=rfl;omega⟩
 | succ n ih =>
  unfold fstT
  by_cases e : p a = true
  ·rw [if_pos e]
   exact ⟨e,Nat.le_refl _,ha,fun q h1 h2 => by omega⟩
  ·rw [if_neg e]
   have hne : k ≠ a:=fun h2 => e (by rw [← h2];exact h)
   obtain ⟨h1,h2,h3,h4⟩:=ih (a + 1) (by omega) (by omega)
   refine ⟨h1,by omega,h3,fun q h5 h6 => ?_⟩
   by_cases e2 : q = a
   ·rw [e2];exact Bool.eq_false_iff.2 e
   ·exact h4 q (by omega) h6
def nxT (s : Syst) (l : List Ev) (i j m : Nat) : Nat:=fstT (nxB s l (fwE s l i j) m) (j - (m + 1)) (m + 1)
theorem nxT_is (s : Syst) (l : List Ev) (i j m : Nat) (hm : i ≤ m) (h : 0 < fwE s l i j m) : m < nxT s l i j m ∧ nxT s l i j m ≤ j ∧ Tr.Eg s l m (nxT s l i j m) ∧ fwE s l i j (nxT s l i j m) = fwE s l i j m - 1 ∧ ∀ q,m < q → q < nxT s l i j m → nxB s l (fwE s l i j) m q = false:=by
 obtain ⟨k,h1,h2,h3⟩:=fwE_next s l i j m hm h
 obtain ⟨a1,a2,a3,a4⟩:=fstT_is (nxB s l (fwE s l i j) m) (j - (m + 1)) (m + 1) k (by omega) (by omega) h3
 have a1' : nxB s l (fwE s l i j) m (nxT s l i j m) = true:=a1
 obtain ⟨b1,b2,b3⟩:=(nxB_iff _ _ _ _ _).1 a1'
 exact ⟨a2,Nat.le_trans a3 h2,b3,b2,fun q h5 h6 => a4 q h5 h6⟩
def wyF (s : Syst) (l : List Ev) (i j : Nat) : Nat → Nat → List Nat
 | 0,_ => []
 | n + 1,m => if m = j then [] else nxT s l i j m :: wyF s l i j n (nxT s l i j m)
def wyD (s : Syst) (l : List Ev) (i j : Nat) : List Nat:=i :: wyF s l i j (j + 1) i
end LW
end Go.Proofs.Ythcndgnpmefefaa
set_option maxRecDepth 100000
namespace Go.Proofs.Ythcndgnpmefefaa
open Mc Go.RowKit
namespace LW
def PrQ (Q : List Eg2) (k a : Nat) : Prop:=a < k ∧ qT Q a = (Q.getD k (0,0)).1
theorem qT_inj {Q : List Eg2} (hn : (kn Q).Nodup) {a b : Nat} (ha : a < Q.length) (hb : b < Q.length) (h : qT Q a = qT Q b) : a = b:=by
 have ga:=qT_get Q a ha
 have gb:=qT_get Q b hb
 have la : a < (kn Q).length:=by rw [kn_len];exact ha
 have lb : b < (kn Q).length:=by rw [kn_len];exact hb
 rw [List.getElem?_eq_getElem la] at ga
 rw [List.getElem?_eq_getElem lb] at gb
 injection ga with ga
 injection gb with gb
 have hp:=List.pairwise_iff_getElem.1 hn
 rcases Nat.lt_trichotomy a b with c | c | c
 ·exact absurd (by rw [ga,gb,h]) (hp a b la lb c)
 ·exact c
 ·exact absurd (by rw [ga,gb,h]) (hp b a lb la c)
structure QJ (s : Syst) (l : List Ev) (Q : List Eg2) (h : Nat) : Prop where
 mono : ∀ k k' a a',0 < k → k < k' → k' < Q.length → PrQ Q k a → PrQ Q k' a' → a ≤ a' ∧ (a = a' → qT Q k < qT Q k')
 clos : ∀ a,a < h → ∀ f t : Nat,qT Q a = (f : Int) → Tr.Eg s l f t → t < l.length → ∃ k,k < Q.length ∧ qT Q k = (t : Int) ∧ (k = 0 ∨ ∃ b,b ≤ a ∧ PrQ Q k b)
theorem QJ.start (s : Syst) (l : List Ev) (i : Nat) : QJ s l [((i : Int),(i : Int))] 0 where
 mono:=fun k k' a a' h1 h2 h3 => by simp at h3;omega
 clos:=fun a h => by omega
theorem nxL_sorted {l : List Ev} {ed : List Eg2} {R : Nat → List Int} {t : Nat} (ho : Ord ed) : (nxL l ed R t).Pairwise (· ≤ ·):=by
 unfold nxL
 split
 ·have h:=List.pairwise_mergeSort (le:=fun (x y : Int) => decide (x ≤ y)) (fun a b c h1 h2 => by simp at *;omega) (fun a b => by simp;omega) (tosE ed t ++ (R (Tr.ev l t).a.toNat).drop (nxK R (Tr.ev l t).a.toNat t))
  exact h.imp (fun h => of_decide_eq_true h)
 ·exact (tosE_ord ho t).imp (fun h => Int.le_of_lt h)
theorem getD_appL (Q Q' : List Eg2) (k : Nat) (h : k < Q.length) : (Q ++ Q').getD k (0,0) = Q.getD k (0,0):=by
 rw [List.getD_eq_getElem?_getD,List.getD_eq_getElem?_getD,List.getElem?_append_left h]
theorem QJ.step {s : Syst} {l : List Ev} {ed : List Eg2} {i j : Nat} {R : Nat → List Int} {Q : List Eg2} {h : Nat} (hg : Tr.Gd s l l.length) (ho : Ok s) (hed : ∀ x,x ∈ ed ↔ x ∈ Tr.edF s l l.length) (hor : Ord ed) (H : QI s l i j R Q h) (J : QJ s l Q h) (h1 : h < Q.length) (h2 : qT Q h ≠ (j : Int)) : QJ s l (nxQ (qT Q h) Q (nxL l ed R (qT Q h).toNat)) (h + 1):=by
 have H':=H.step hg ho hed h1 h2
 obtain ⟨ys,e1,hsub,_,_⟩:=nxQ_is (qT Q h) (nxL l ed R (qT Q h).toNat) Q
 have hnd:=H'.nd
 rw [e1] at H' hnd ⊢
 have hpre : ∀ k,k < Q.length → (Q ++ ys.map (fun y => (qT Q h,y))).getD k (0,0) = Q.getD k (0,0):=fun k hk => getD_appL _ _ _ hk
 have hq : ∀ k,k < Q.length → qT (Q ++ ys.map (fun y => (qT Q h,y))) k = qT Q k:=fun k hk => qT_app Q _ k hk
 have hnew : ∀ k,¬ k < Q.length → k < (Q ++ ys.map (fun y => (qT Q h,y))).length → (Q ++ ys.map (fun y => (qT Q h,y))).getD k (0,0) = (qT Q h,ys.getD (k - Q.length) 0):=fun k hk hk2 => by
  rw [List.length_append,List.length_map] at hk2
  have hy : k - Q.length < ys.length:=by omega
  rw [List.getD_eq_getElem?_getD,List.getElem?_append_right (by omega),List.getElem?_map,List.getElem?_eq_getElem hy,List.getD_eq_getElem?_getD,List.getElem?_eq_getElem hy]
  rfl
 have hyn : ys.Nodup:=by
  rw [kn_app] at hnd
  have h9:=(List.nodup_append.1 hnd).2.1
  have e9 : kn (ys.map (fun y => (qT Q h,y))) = ys:=by
   unfold kn
   rw [List.map_map]
   exact List.map_id _
  rw [e9] at h9
  exact h9
 have hys : ys.Pairwise (· < ·):=by
  have h9:=List.Pairwise.sublist hsub (nxL_sorted (l:=l) (R:=R) (t:=(qT Q h).toNat) hor)
  have h8 : ys.Pairwise (fun a b => a ≤ b ∧ a ≠ b):=List.pairwise_and_iff.2 ⟨h9,hyn⟩
  exact h8.imp (fun h => by omega)
 have hpr : ∀ k a,k < Q.length → PrQ (Q ++ ys.map (fun y => (qT Q h,y))) k a → PrQ Q k a:=fun k a hk hp => by
  refine ⟨hp.1,?_⟩
  have:=hp.2
  rw [hpre k hk,hq a (by have:=hp.1;omega)] at this
  exact this
 have hpr2 : ∀ k a,k < Q.length → PrQ Q k a → PrQ (Q ++ ys.map (fun y => (qT Q h,y))) k a:=fun k a hk hp => by
  refine ⟨hp.1,?_⟩
  rw [hpre k hk,hq a (by have:=hp.1;omega)]
  exact hp.2
 have hL : h < (Q ++ ys.map (fun y => (qT Q h,y))).length:=by rw [List.length_append];omega
 have hparN : ∀ k a,¬ k < Q.length → k < (Q ++ ys.map (fun y => (qT Q h,y))).length → PrQ (Q ++ ys.map (fun y => (qT Q h,y))) k a → a = h:=fun k a hk hk2 hp => by
  have h9:=hp.2
  rw [hnew k hk hk2] at h9
  exact qT_inj hnd (by have:=hp.1;omega) hL (by rw [h9,hq h h1])
 have hparO : ∀ k a,0 < k → k < Q.length → PrQ Q k a → a < h:=fun k a h0 hk hp => by
  obtain ⟨a0,f,t,q1,q2,q3,q4,_⟩:=H.st k h0 hk
  have h9:=hp.2
  rw [q4] at h9
  have : a = a0:=qT_inj H.nd (by have:=hp.1;omega) (by omega) (by rw [h9,q3])
  omega
 refine ⟨fun k k' a a' k0 hkk hk' p p' => ?_,fun a ha f t q1 q2 q3 => ?_⟩
 ·by_cases c' : k' < Q.length
  ·have h9:=J.mono k k' a a' k0 hkk c' (hpr k a (by omega) p) (hpr k' a' c' p')
   rw [hq k (by omega),hq k' c']
   exact h9
  ·have ea':=hparN k' a' c' hk' p'
   by_cases c : k < Q.length
   ·have h9:=hparO k a k0 c (hpr k a c p)
    exact ⟨by omega,fun e => by omega⟩
   ·have ea:=hparN k a c (by omega) p
    refine ⟨by omega,fun _ => ?_⟩
    have ek : qT (Q ++ ys.map (fun y => (qT Q h,y))) k = ys.getD (k - Q.length) 0:=congrArg Prod.snd (hnew k c (by omega))
    have ek' : qT (Q ++ ys.map (fun y => (qT Q h,y))) k' = ys.getD (k' - Q.length) 0:=congrArg Prod.snd (hnew k' c' hk')
    rw [ek,ek']
    rw [List.length_append,List.length_map] at hk'
    have g1 : k - Q.length < ys.length:=by omega
    have g2 : k' - Q.length < ys.length:=by omega
    show ys.getD (k - Q.length) 0 < ys.getD (k' - Q.length) 0
    rw [List.getD_eq_getElem?_getD,List.getD_eq_getElem?_getD,List.getElem?_eq_getElem g1,List.getElem?_eq_getElem g2]
    exact List.pairwise_iff_getElem.1 hys _ _ g1 g2 (by omega)
 ·by_cases c : a < h
  ·rw [hq a (by omega)] at q1
   obtain ⟨k,g1,g2,g3⟩:=J.clos a c f t q1 q2 q3
   refine ⟨k,by rw [List.length_append];omega,by rw [hq k g1];exact g2,?_⟩
   rcases g3 with g3 | ⟨b,g4,g5⟩
   ·exact .inl g3
   ·exact .inr ⟨b,g4,hpr2 k b g1 g5⟩
  ·obtain ⟨k,g1,g2⟩:=kn_at (H'.cl a ha f t q1 q2 q3)
   refine ⟨k,g1,g2,?_⟩
   rcases Nat.eq_zero_or_pos k with k0 | k0
   ·exact .inl k0
   ·obtain ⟨b,f2,t2,g3,g4,g5,g6,_⟩:=H'.st k k0 g1
    exact .inr ⟨b,by omega,g3,by rw [g5,g6]⟩
theorem Rch.invJ {s : Syst} {l : List Ev} {ed : List Eg2} {i j : Nat} {R : Nat → List Int} {Q : List Eg2} {h : Nat} (hg : Tr.Gd s l l.length) (ho : Ok s) (hed : ∀ x,x ∈ ed ↔ x ∈ Tr.edF s l l.length) (hor : Ord ed) (hi : i < l.length) (H : Rch l ed i j R Q h) : QI s l i j R Q h ∧ QJ s l Q h :=
 H (fun R Q h => QI s l i j R Q h ∧ QJ s l Q h) ⟨QI.start s l i j hi,QJ.start s l i⟩ (fun _ _ _ h0 h1 h2 => ⟨h0.1.step hg ho hed h1 h2,h0.2.step hg ho hed hor h0.1 h1 h2⟩)
def DP (Q : List Eg2) : Nat → Nat → Prop
 | 0,k => k = 0
 | d + 1,k => 0 < k ∧ ∃ a,PrQ Q k a ∧ DP Q d a
theorem DP_mono {s : Syst} {l : List Ev} {Q : List Eg2} {h : Nat} (J : QJ s l Q h) (nd : (kn Q).Nodup) : ∀ d' k' d k,k ≤ k' → k' < Q.length → DP Q d k → DP Q d' k' → d ≤ d':=by
 intro d'
 induction d' with
 | zero =>
  intro k' d k h1 h2 h3 h4
  have h4 : k' = 0:=h4
  cases d with
  | zero => exact Nat.le_refl _
  | succ d => have:=h3.1;omega
 | succ d' ih =>
  intro k' d k h1 h2 h3 h4
  obtain ⟨g1,a',g2,g3⟩:=h4
  cases d with
  | zero => omega
  | succ d =>
   obtain ⟨g4,a,g5,g6⟩:=h3
   have hle : a ≤ a':=by
    rcases Nat.lt_or_eq_of_le h1 with h | h
    ·exact (J.mono k k' a a' g4 h h2 g5 g2).1
    ·subst h
     exact Nat.le_of_eq (qT_inj nd (by have:=g5.1;omega) (by have:=g2.1;omega) (by rw [g5.2,g2.2]))
   have:=ih a' d a hle (by have:=g2.1;omega) g6 g3
   omega
theorem DP_some {s : Syst} {l : List Ev} {i j : Nat} {R : Nat → List Int} {Q : List Eg2} {h : Nat} (H : QI s l i j R Q h) : ∀ n k,k < n → k < Q.length → ∃ d,DP Q d k:=by
 intro n
 induction n with
 | zero => intro k hk;omega
 | succ n ih =>
  intro k hk hl
  rcases Nat.eq_zero_or_pos k with k0 | k0
  ·exact ⟨0,k0⟩
  ·obtain ⟨a,f,t,g1,g2,g3,g4,_⟩:=H.st k k0 hl
   obtain ⟨d,hd⟩:=ih a (by omega) (by omega)
   exact ⟨d + 1,k0,a,⟨g1,by rw [g3,g4]⟩,hd⟩
theorem DP_edge {s : Syst} {l : List Ev} {i j : Nat} {R : Nat → List Int} {Q : List Eg2} {h : Nat} (H : QI s l i j R Q h) (J : QJ s l Q h) {a d f t : Nat} (ha : a < h) (hq : qT Q a = (f : Int)) (he : Tr.Eg s l f t) (ht : t < l.length) (hd : DP Q d a) : ∃ k,k < Q.length ∧ qT Q k = (t : Int) ∧ ∃ d',d' ≤ d + 1 ∧ DP Q d' k:=by
 have hl:=H.hl
 obtain ⟨k,g1,g2,g3⟩:=J.clos a ha f t hq he ht
 refine ⟨k,g1,g2,?_⟩
 rcases g3 with g3 | ⟨b,g4,g5⟩
 ·exact ⟨0,by omega,g3⟩
 ·obtain ⟨db,hdb⟩:=DP_some H (b + 1) b (by omega) (by omega)
  have:=DP_mono J H.nd d a db b g4 (by omega) hdb hd
  exact ⟨db + 1,by omega,by have:=g5.1;omega,b,g5,hdb⟩
def gN (s : Syst) (l : List Ev) (i j : Nat) : Nat → Nat
 | 0 => i
 | m + 1 => nxT s l i j (gN s l i j m)
theorem gN_is (s : Syst) (l : List Ev) (i j G : Nat) (hij : i ≤ j) (hG : fwE s l i j i = (G : Int)) : ∀ m,m ≤ G → i ≤ gN s l i j m ∧ gN s l i j m ≤ j ∧ fwE s l i j (gN s l i j m) = (G : Int) - (m : Int):=by
 intro m
 induction m with
 | zero => intro _;exact ⟨Nat.le_refl _,hij,by rw [show gN s l i j 0 = i from rfl,hG];omega⟩
 | succ m ih =>
  intro hm
  obtain ⟨h1,h2,h3⟩:=ih (by omega)
  obtain ⟨g1,g2,g3,g4,g5⟩:=nxT_is s l i j (gN s l i j m) h1 (by omega)
  refine ⟨?_,g2,?_⟩
  ·show i ≤ nxT s l i j (gN s l i j m)
   omega
  ·show fwE s l i j (nxT s l i j (gN s l i j m)) = _
   rw [g4,h3]
   omega
theorem gN_next (s : Syst) (l : List Ev) (i j G : Nat) (hij : i ≤ j) (hG : fwE s l i j i = (G : Int)) (m : Nat) (hm : m < G) : gN s l i j m < gN s l i j (m + 1) ∧ Tr.Eg s l (gN s l i j m) (gN s l i j (m + 1)) ∧ ∀ q,gN s l i j m < q → q < gN s l i j (m + 1) → nxB s l (fwE s l i j) (gN s l i j m) q = false:=by
 obtain ⟨h1,h2,h3⟩:=gN_is s l i j G hij hG m (by omega)
 obtain ⟨g1,g2,g3,g4,g5⟩:=nxT_is s l i j (gN s l i j m) h1 (by omega)
 exact ⟨g1,g3,g5⟩
theorem wyF_is (s : Syst) (l : List Ev) (i j G : Nat) (hij : i ≤ j) (hG : fwE s l i j i = (G : Int)) : ∀ n m,m ≤ G → G - m ≤ n → wyF s l i j n (gN s l i j m) = (List.range (G - m)).map (fun q => gN s l i j (m + 1 + q)):=by
 intro n
 induction n with
 | zero =>
  intro m h1 h2
  rw [show G - m = 0 by omega]
  rfl
 | succ n ih =>
  intro m h1 h2
  obtain ⟨g1,g2,g3⟩:=gN_is s l i j G hij hG m h1
  by_cases e : gN s l i j m = j
  ·have h3 : fwE s l i j j = 0:=fw_j s l j _
   rw [e,h3] at g3
   rw [show G - m = 0 by omega,show wyF s l i j (n + 1) (gN s l i j m) = [] from if_pos e]
   rfl
  ·have h3 : m < G:=by
    rcases Nat.lt_or_eq_of_le h1 with h | h
    ·exact h
    ·exact absurd (fwE_zero s l i j _ (by rw [g3,h];omega)) e
   rw [show wyF s l i j (n + 1) (gN s l i j m) = gN s l i j (m + 1) :: wyF s l i j n (gN s l i j (m + 1)) from if_neg e,ih (m + 1) (by omega) (by omega),show G - m = (G - (m + 1)) + 1 by omega,List.range_succ_eq_map,List.map_cons,List.map_map]
   congr 1
   refine List.map_congr_left (fun q _ => ?_)
   show _ = gN s l i j (m + 1 + (q + 1))
   rw [show m + 1 + (q + 1) = m + 1 + 1 + q by omega]
theorem wyD_is (s : Syst) (l : List Ev) (i j G : Nat) (hij : i ≤ j) (hG : fwE s l i j i = (G : Int)) (hGj : G ≤ j + 1) : wyD s l i j = (List.range (G + 1)).map (gN s l i j):=by
 unfold wyD
 have h:=wyF_is s l i j G hij hG (j + 1) 0 (Nat.zero_le _) (by omega)
 rw [show gN s l i j 0 = i from rfl] at h
 rw [h,Nat.sub_zero,List.range_succ_eq_map,List.map_cons,List.map_map]
 congr 1
 refine List.map_congr_left (fun q _ => ?_)
 show gN s l i j (0 + 1 + q) = gN s l i j (q + 1)
 rw [show 0 + 1 + q = q + 1 by omega]
end LW
end Go.Proofs.Ythcndgnpmefefaa
set_option maxRecDepth 100000
namespace Go.Proofs.Ythcndgnpmefefaa
open Mc Go.RowKit
namespace LW
theorem way_doc {s : Syst} {l : List Ev} {i j : Nat} {R : Nat → List Int} {Q : List Eg2} {h : Nat} {r : List Int} (H : QI s l i j R Q h) (J : QJ s l Q h) (hl : h < Q.length) (hq : qT Q h = (j : Int)) (hij : i < j) (hj : j < l.length) (w : WP Q (i : Int) (j : Int) r) : r = (wyD s l i j).map (fun (x : Nat) => (x : Int)):=by
 obtain ⟨w1,w2,w3,w4⟩:=w
 obtain ⟨n,hn⟩ : ∃ n,r.length = n + 1:=⟨r.length - 1,by omega⟩
 rw [hn,Nat.add_sub_cancel] at w3
 have hq0 : qT Q 0 = (i : Int):=by unfold qT;rw [H.at]
 have hlen:=H.pos
 -- each step of the found row
 have step : ∀ m,m < n → ∃ k a f t : Nat,k < Q.length ∧ a < h ∧ PrQ Q k a ∧ qT Q a = (f : Int) ∧ qT Q k = (t : Int) ∧ r.getD m 0 = (f : Int) ∧ r.getD (m + 1) 0 = (t : Int) ∧ Tr.Eg s l f t ∧ t < l.length ∧ i < t:=fun m hm => by
  obtain ⟨k0,hk0,e⟩:=List.mem_iff_getElem.1 (w4 m (by omega))
  rw [List.length_drop] at hk0
  rw [List.getElem_drop] at e
  have e2 : Q.getD (1 + k0) (0,0) = (r.getD m 0,r.getD (m + 1) 0):=by
   rw [List.getD_eq_getElem?_getD,List.getElem?_eq_getElem (by omega)]
   exact e
  obtain ⟨a,f,t,g1,g2,g3,g4,g5⟩:=H.st (1 + k0) (by omega) (by omega)
  obtain ⟨t2,g6,g7⟩:=H.lt _ (qT_mem Q (1 + k0) (by omega))
  have g8 : qT Q (1 + k0) = (t : Int):=by unfold qT;rw [g4]
  have hb:=H.reach (1 + k0 + 1) (1 + k0) (by omega) (by omega) (by omega) t g8
  rw [g4] at e2
  injection e2 with e3 e4
  exact ⟨1 + k0,a,f,t,by omega,g2,⟨g1,by rw [g3,g4]⟩,g3,g8,e3.symm,e4.symm,g5,by omega,hb.lt⟩
 -- where the found row's events stand,and how deep
 have deep : ∀ m,m ≤ n → ∃ k,k < Q.length ∧ qT Q k = r.getD m 0 ∧ DP Q m k:=by
  intro m
  induction m with
  | zero => intro _;exact ⟨0,hlen,by rw [hq0,w2],rfl⟩
  | succ m ih =>
   intro hm
   obtain ⟨k,g1,g2,g3⟩:=ih (by omega)
   obtain ⟨k',a,f,t,q1,q2,q3,q4,q5,q6,q7,_⟩:=step m (by omega)
   have ea : a = k:=qT_inj H.nd (by omega) g1 (by rw [q4,g2,q6])
   exact ⟨k',q1,by rw [q5,q7],by have:=q3.1;omega,a,q3,by rw [ea];exact g3⟩
 have hDh : DP Q n h:=by
  obtain ⟨k,g1,g2,g3⟩:=deep n (Nat.le_refl _)
  have : k = h:=qT_inj H.nd g1 hl (by rw [g2,w3,hq])
  rw [← this];exact g3
 -- far along the found row
 have far : ∀ d,d ≤ n → ∃ x : Nat,r.getD (n - d) 0 = (x : Int) ∧ x ≤ j ∧ i ≤ x ∧ 0 ≤ fwE s l i j x ∧ fwE s l i j x ≤ (d : Int):=by
  intro d
  induction d with
  | zero => intro _;exact ⟨j,by rw [Nat.sub_zero];exact w3,Nat.le_refl _,by omega,by rw [show fwE s l i j j = 0 from fw_j s l j _];exact Int.le_refl _,by rw [show fwE s l i j j = 0 from fw_j s l j _];exact Int.le_refl _⟩
  | succ d ih =>
   intro hd
   obtain ⟨y,g1,g2,g3,g4,g5⟩:=ih (by omega)
   obtain ⟨k,a,f,t,q1,q2,q3,q4,q5,q6,q7,q8,q9,q10⟩:=step (n - (d + 1)) (by omega)
   rw [show n - (d + 1) + 1 = n - d by omega,g1] at q7
   obtain rfl : y = t:=by omega
   have h9:=fw_step s l j (j - i + 1) y f (by omega) g2 g4 q8
   have hfi : i ≤ f:=by
    rcases Nat.eq_zero_or_pos a with a0 | a0
    ·rw [a0,hq0] at q4;omega
    ·have:=(H.reach (a + 1) a (by omega) a0 (by omega) f q4).lt
     omega
   have h10 : fwE s l i j f ≤ fwE s l i j y + 1:=h9.2
   have h11 : 0 ≤ fwE s l i j f:=h9.1
   exact ⟨f,q6,by have:=q8.lt;omega,hfi,h11,by omega⟩
 obtain ⟨G,hG⟩ : ∃ G : Nat,fwE s l i j i = (G : Int):=by
  obtain ⟨x,g1,g2,g3,g4,g5⟩:=far n (Nat.le_refl _)
  rw [Nat.sub_self,w2] at g1
  obtain rfl : i = x:=by omega
  exact ⟨(fwE s l i j i).toNat,by omega⟩
 have hGn : G ≤ n:=by
  obtain ⟨x,g1,g2,g3,g4,g5⟩:=far n (Nat.le_refl _)
  rw [Nat.sub_self,w2] at g1
  obtain rfl : i = x:=by omega
  omega
 have hgj : gN s l i j G = j:=by
  obtain ⟨_,_,g3⟩:=gN_is s l i j G (by omega) hG G (Nat.le_refl _)
  exact fwE_zero s l i j _ (by rw [g3];omega)
 -- the document's way stands in the queue,no deeper than its own number
 have doc : ∀ m,m ≤ G → ∃ p,p < Q.length ∧ qT Q p = (gN s l i j m : Int) ∧ (∃ d,d ≤ m ∧ DP Q d p) ∧ (m < G → p < h):=by
  intro m
  induction m with
  | zero =>
   intro _
   refine ⟨0,hlen,hq0,⟨0,Nat.le_refl _,rfl⟩,fun _ => ?_⟩
   rcases Nat.eq_zero_or_pos h with h0 | h0
   ·rw [h0,hq0] at hq;omega
   ·exact h0
  | succ m ih =>
   intro hm
   obtain ⟨p,g1,g2,⟨d,g3,g4⟩,g5⟩:=ih (by omega)
   obtain ⟨n1,n2,_⟩:=gN_next s l i j G (by omega) hG m (by omega)
   obtain ⟨_,n3,_⟩:=gN_is s l i j G (by omega) hG (m + 1) hm
   obtain ⟨k,q1,q2,d',q3,q4⟩:=DP_edge H J (g5 (by omega)) g2 n2 (by omega) g4
   refine ⟨k,q1,q2,⟨d',by omega,q4⟩,fun hm2 => ?_⟩
   rcases Nat.lt_or_ge k h with c | c
   ·exact c
   ·have:=DP_mono J H.nd d' k n h c q1 hDh q4
    omega
 have hnG : n = G:=by
  obtain ⟨p,g1,g2,⟨d,g3,g4⟩,_⟩:=doc G (Nat.le_refl _)
  rw [hgj] at g2
  have : p = h:=qT_inj H.nd g1 hl (by rw [g2,hq])
  subst this
  have:=DP_mono J H.nd d p n p (Nat.le_refl _) hl hDh g4
  omega
 subst hnG
 -- far along the found row,from below
 have low : ∀ m,m ≤ n → ∃ x : Nat,r.getD m 0 = (x : Int) ∧ (n : Int) - (m : Int) ≤ fwE s l i j x:=by
  intro m
  induction m with
  | zero => intro _;exact ⟨i,w2,by rw [hG];omega⟩
  | succ m ih =>
   intro hm
   obtain ⟨x,g1,g2⟩:=ih (by omega)
   obtain ⟨k,a,f,t,q1,q2,q3,q4,q5,q6,q7,q8,q9,q10⟩:=step m (by omega)
   obtain ⟨y,g3,g4,g5,g6,g7⟩:=far (n - (m + 1)) (by omega)
   rw [show n - (n - (m + 1)) = m + 1 by omega,q7] at g3
   obtain rfl : t = y:=by omega
   rw [q6] at g1
   obtain rfl : f = x:=by omega
   have h9:=fw_step s l j (j - i + 1) t f (by omega) g4 g6 q8
   have h10 : fwE s l i j f ≤ fwE s l i j t + 1:=h9.2
   exact ⟨t,q7,by omega⟩
 -- a row that is ahead stays ahead
 have ahead_ : ∀ m p k : Nat,m < n → p < h → qT Q p = (gN s l i j m : Int) → (∃ k0,k0 < Q.length ∧ qT Q k0 = r.getD m 0 ∧ p < k0) → ∃ p',p' < Q.length ∧ qT Q p' = (gN s l i j (m + 1) : Int) ∧ ∃ k',k' < Q.length ∧ qT Q k' = r.getD (m + 1) 0 ∧ p' < k':=by
  intro m p k hm hp hpq hk0
  obtain ⟨k0,c1,c2,c3⟩:=hk0
  obtain ⟨n1,n2,_⟩:=gN_next s l i j n (by omega) hG m hm
  obtain ⟨_,n3,_⟩:=gN_is s l i j n (by omega) hG (m + 1) hm
  obtain ⟨p',q1,q2,q3⟩:=J.clos p hp _ _ hpq n2 (by omega)
  obtain ⟨k',a,f,t,e1,e2,e3,e4,e5,e6,e7,e8,e9,e10⟩:=step m hm
  have ea : a = k0:=qT_inj H.nd (by omega) c1 (by rw [e4,c2,e6])
  refine ⟨p',q1,q2,k',e1,by rw [e5,e7],?_⟩
  have hk1 : 0 < k':=by have:=e3.1;omega
  rcases q3 with q3 | ⟨b,q4,q5⟩
  ·omega
  ·rcases Nat.lt_trichotomy p' k' with c | c | c
   ·exact c
   ·subst c
    have : b = a:=qT_inj H.nd (by have:=q5.1;omega) (by omega) (by rw [q5.2,e3.2])
    omega
   ·have:=(J.mono k' p' a b hk1 c q1 e3 q5).1
    omega
 have same : ∀ m,m ≤ n → r.getD m 0 = (gN s l i j m : Int):=by
  intro m
  induction m with
  | zero => intro _;exact w2
  | succ m ih =>
   intro hm
   have hrm:=ih (by omega)
   obtain ⟨k,a,f,t,e1,e2,e3,e4,e5,e6,e7,e8,e9,e10⟩:=step m (by omega)
   rw [hrm] at e6
   have ef : gN s l i j m = f:=by omega
   by_cases hne : t = gN s l i j (m + 1)
   ·rw [e7,hne]
   ·exfalso
    obtain ⟨n1,n2,n3⟩:=gN_next s l i j n (by omega) hG m (by omega)
    obtain ⟨n4,n5,n6⟩:=gN_is s l i j n (by omega) hG (m + 1) hm
    obtain ⟨_,_,n7⟩:=gN_is s l i j n (by omega) hG m (by omega)
    -- the found event might be the next one,so the document's is smaller
    have hlt : gN s l i j (m + 1) < t:=by
     rcases Nat.lt_trichotomy t (gN s l i j (m + 1)) with c | c | c
     ·have h8:=n3 t (by rw [ef];exact e8.lt) c
      obtain ⟨x,g1,g2⟩:=low (m + 1) hm
      obtain ⟨y,g3,g4,g5,g6,g7⟩:=far (n - (m + 1)) (by omega)
      rw [show n - (n - (m + 1)) = m + 1 by omega,e7] at g3
      rw [e7] at g1
      obtain rfl : t = x:=by omega
      obtain rfl : t = y:=by omega
      have h9 : nxB s l (fwE s l i j) (gN s l i j m) t = true:=(nxB_iff _ _ _ _ _).2 ⟨g6,by rw [n7];omega,by rw [ef];exact e8⟩
      rw [h9] at h8
      cases h8
     ·exact absurd c hne
     ·exact c
    -- it stands ahead of the found one
    obtain ⟨p,q1,q2,q3⟩:=J.clos a e2 f (gN s l i j (m + 1)) e4 (by rw [← ef];exact n2) (by omega)
    have hk1 : 0 < k:=by have:=e3.1;omega
    have hpk : p < k:=by
     rcases q3 with q3 | ⟨b,q4,q5⟩
     ·omega
     ·rcases Nat.lt_trichotomy p k with c | c | c
      ·exact c
      ·subst c;rw [e5] at q2;omega
      ·have h9:=J.mono k p a b hk1 c q1 e3 q5
       have h10:=h9.2 (by omega)
       rw [e5,q2] at h10
       omega
    -- and so to the end
    have all : ∀ d,m + 1 + d ≤ n → ∃ p',p' < Q.length ∧ qT Q p' = (gN s l i j (m + 1 + d) : Int) ∧ ∃ k',k' < Q.length ∧ qT Q k' = r.getD (m + 1 + d) 0 ∧ p' < k':=by
     intro d
     induction d with
     | zero => intro _;exact ⟨p,q1,q2,k,e1,by rw [e5];exact e7.symm,hpk⟩
     | succ d ihd =>
      intro hd
      obtain ⟨p1,g1,g2,k1,g3,g4,g5⟩:=ihd (by omega)
      obtain ⟨p2,c1,c2,_,c3⟩:=doc (m + 1 + d) (by omega)
      have : p2 = p1:=qT_inj H.nd c1 g1 (by rw [c2,g2])
      subst this
      exact ahead_ (m + 1 + d) p2 k1 (by omega) (c3 (by omega)) g2 ⟨k1,g3,g4,g5⟩
    obtain ⟨p',g1,g2,k',g3,g4,g5⟩:=all (n - (m + 1)) (by omega)
    rw [show m + 1 + (n - (m + 1)) = n by omega] at g2 g4
    rw [hgj] at g2
    rw [w3] at g4
    have : p' = k':=qT_inj H.nd g1 g3 (by rw [g2,g4])
    omega
 have hGj : n ≤ j + 1:=by
  have h9:=(fw_bd s l j (j - i + 1) i).2
  have h10 : fwE s l i j i ≤ ((j - i + 1 : Nat) : Int):=h9
  omega
 rw [wyD_is s l i j n (by omega) hG hGj,List.map_map]
 apply List.ext_getElem?
 intro q
 by_cases hqn : q < n + 1
 ·rw [List.getElem?_eq_getElem (by omega),List.getElem?_map,List.getElem?_range hqn]
  have h9:=same q (by omega)
  rw [List.getD_eq_getElem?_getD,List.getElem?_eq_getElem (by omega)] at h9
  show some r[q] = some _
  congr 1
 ·rw [List.getElem?_eq_none (by omega),List.getElem?_eq_none (by rw [List.length_map,List.length_range];omega)]
theorem wyr_doc {s : Syst} {l : List Ev} {i j : Nat} {r : List Int} (hg : Tr.Gd s l l.length) (ho : Ok s) (hi : i < l.length) (hj : j < l.length) (h : WyR s l i j r) : (Tr.Bf s l i j → r = (wyD s l i j).map (fun (x : Nat) => (x : Int))) ∧ (¬ Tr.Bf s l i j → r = []):=by
 refine ⟨fun hb => ?_,(wyr_ok hg ho hi hj h).2⟩
 rcases h with ⟨h1,h2⟩ | ⟨hij,ed,R,Q,h,hor,hed,hrc,h3⟩
 ·exact absurd hb.lt (by omega)
 ·obtain ⟨H,J⟩:=hrc.invJ hg ho hed hor hi
  rcases h3 with ⟨h4,_⟩ | ⟨h4,h5,h6⟩
  ·exact absurd hb (H.none h4 hj)
  ·exact way_doc H J h4 h5 hij hj h6
end LW
end Go.Proofs.Ythcndgnpmefefaa
