/-
  Em, De, Jm in one.
-/
import Derived.Test.YthcndgnpmefefaaCkCo
import Derived.Test.YthcndgnpmefefaaIn1o
import Derived.Test.YthcndgnpmefefaaDnAo
import Derived.Test.YthcndgnpmefefaaDcAo
set_option linter.unusedVariables false
set_option linter.unusedSimpArgs false
set_option maxRecDepth 100000
namespace Go.Proofs.Ythcndgnpmefefaa
open Mc Go.RowKit
namespace LW
theorem ord_len : ∀ (b a : List Eg2),Ord a → Ord b → (∀ x,x ∈ a → x ∈ b) → a.length ≤ b.length
 | [],a,_,_,h => by
  cases a with
  | nil => exact Nat.le_refl _
  | cons x a => exact absurd (h x (List.mem_cons_self ..)) (by simp)
 | y :: b,a,ha,hb,h => by
  unfold Ord at ha hb
  rw [List.pairwise_cons] at hb
  cases a with
  | nil => exact Nat.zero_le _
  | cons x a =>
   have ha':=ha
   rw [List.pairwise_cons] at ha'
   by_cases e : x = y
   ·subst e
    have:=ord_len b a ha'.2 hb.2 (fun z hz => by
     rcases List.mem_cons.1 (h z (List.mem_cons_of_mem _ hz)) with e | e
     ·have:=ha'.1 z hz
      rw [e] at this
      omega
     ·exact e)
    simp only [List.length_cons]
    omega
   ·have hx : x ∈ b:=by
     rcases List.mem_cons.1 (h x (List.mem_cons_self ..)) with e2 | e2
     ·exact absurd e2 e
     ·exact e2
    have hyx:=hb.1 x hx
    have:=ord_len b (x :: a) ha hb.2 (fun z hz => by
     rcases List.mem_cons.1 (h z hz) with e2 | e2
     ·subst e2
      rcases List.mem_cons.1 hz with e3 | e3
      ·exact absurd e3.symm e
      ·have:=ha'.1 z e3
       omega
     ·exact e2)
    simp only [List.length_cons] at this ⊢
    omega
end LW
end Go.Proofs.Ythcndgnpmefefaa
namespace Go.Proofs.Ythcndgnpmefefaa
open Go.RowKit
namespace LW
open Mc
theorem own_keepG {W W1 : World} {B B' n m s s' : Nat} {t t' : TypeId} {v u : Value} {xs ys : List Value} (h : W.ownsRow B t s v n xs) (ho : W.ownsRow B' t' s' u m ys) (hne : t ≠ t') (hg : W.grownBy W1 u.ownBlock) : W1.ownsRow B t s v n xs :=
 own_keepK h (fun b hb => hg.block b (own_lt h b hb) (fun e => by
  rcases h.2 with ⟨rfl,_⟩ | ⟨g,cap,cur,rfl,_,hh,_⟩
  ·cases hb
  ·have e1 : g = b:=by injection hb
   subst e1
   exact own_neB ho hh (fun e2 => hne e2.symm) e.symm))
end LW
end Go.Proofs.Ythcndgnpmefefaa
set_option maxRecDepth 100000
namespace Go.Proofs.Ythcndgnpmefefaa
open Mc Go.RowKit
namespace LW
def fJ (n : Nat) (hd : Value) (hv vs : Nat → Value) (cs : Nat → List Int) (lv : Value) (es : List Eg2) : Option (Option Nat) → Rw
 | none => ⟨35,2,lv,es.length,edC es⟩
 | some none => ⟨23,1,hd,n,rwI n hv⟩
 | some (some j) => ⟨3,1,vs j,(cs j).length,(cs j).map (Value.int .i64)⟩
structure JM (W : World) (B n : Nat) (hd : Value) (hv vs : Nat → Value) (cs : Nat → List Int) (lv : Value) (es : List Eg2) : Prop where
 fam : Fam W B (fJ n hd hv vs cs lv es)
section
variable {W W1 : World} {B n : Nat} {hd : Value} {hv vs : Nat → Value} {cs : Nat → List Int} {lv : Value} {es : List Eg2}
theorem JM.below (h : JM W B n hd hv vs cs lv es) (hb : Below W.heap.size W W1) : JM W1 B n hd hv vs cs lv es:=⟨h.fam.below hb⟩
theorem JM.hAt (h : JM W B n hd hv vs cs lv es) (j : Nat) (hj : j < n) : ∃ b cap,hd = .slice (some ⟨b,0,none⟩) n cap ∧ B ≤ b ∧ W.cell? ⟨b,j,none⟩ = some (hv j) ∧ W.frozen? ⟨b,j,none⟩ = false:=by
 have hl : j < (fJ n hd hv vs cs lv es (some none)).con.length:=by show j < (rwI n hv).length;rw [rwI_len];exact hj
 obtain ⟨b,cap,e,h1,h2,h3⟩:=h.fam.cell (some none) j hl
 refine ⟨b,cap,e,h1,?_,h3⟩
 rw [h2]
 show some ((rwI n hv).getD j (.bool false)) = _
 rw [List.getD_eq_getElem?_getD,rwI_get n _ j hj]
 rfl
theorem JM.hIs (h : JM W B n hd hv vs cs lv es) : ∃ a c,hd = .slice a n c:=own_openE (h.fam.own (some none))
theorem JM.rIs (h : JM W B n hd hv vs cs lv es) (j : Nat) : ∃ a c,vs j = .slice a (cs j).length c ∧ NR W a (cs j):=by
 have ho : W.ownsRow B 3 1 (vs j) (cs j).length ((cs j).map (Value.int .i64)):=h.fam.own (some (some j))
 exact nr_own9 ho
theorem JM.appR (h : JM W B n hd hv vs cs lv es) (j : Nat) (xs : List Int) (u : Value) (ho : W1.ownsRow B 3 1 u ((cs j).length + xs.length) ((cs j).map (Value.int .i64) ++ xs.map (Value.int .i64))) (hg : W.grownBy W1 (vs j).ownBlock) (hat : u.ownBlock = (vs j).ownBlock ∨ u.ownBlock = some W.heap.size) : JM W1 B n hd hv (vup vs j u) (put cs j (cs j ++ xs)) lv es:=by
 have h1:=h.fam.grown (some (some j)) ⟨3,1,u,(cs j).length + xs.length,(cs j).map (Value.int .i64) ++ xs.map (Value.int .i64)⟩ hg ho (hat.imp id (fun e b hb => by rw [e] at hb;injection hb with hb;omega))
 refine ⟨h1.congr (fun i => ?_)⟩
 rcases i with _ | _ | i
 ·rw [upd_other _ _ _ _ (by intro e;cases e)];rfl
 ·rw [upd_other _ _ _ _ (by intro e;cases e)];rfl
 ·by_cases e : i = j
  ·subst e
   rw [upd_same]
   unfold fJ put vup
   simp only [if_true,List.length_append,List.map_append]
  ·rw [upd_other _ _ _ _ (by intro e2;injection e2 with e2;injection e2 with e2;exact e e2)]
   unfold fJ put vup
   simp only [if_neg e]
theorem JM.setH (h : JM W B n hd hv vs cs lv es) (j : Nat) (u : Value) {b c : Nat} (hvj : hd = .slice (some ⟨b,0,none⟩) n c) : JM (W.setCell ⟨b,j,none⟩ u) B n hd (vup hv j u) vs cs lv es:=by
 have h1:=h.fam.set (some none) (b:=b) (n:=n) (cap:=c) hvj rfl j u
 refine ⟨h1.congr (fun i => ?_)⟩
 rcases i with _ | _ | i
 ·rw [upd_other _ _ _ _ (by intro e;cases e)];rfl
 ·rw [upd_same]
  unfold fJ
  dsimp only
  congr 1
  unfold rwI
  apply List.ext_getElem?
  intro q
  rw [List.getElem?_set,List.getElem?_map,List.getElem?_map,List.length_map,List.length_range]
  by_cases hq : q < n
  ·rw [List.getElem?_range hq]
   by_cases e : j = q
   ·subst e
    rw [if_pos rfl,if_pos hq]
    simp [vup]
   ·rw [if_neg e]
    show some (vup hv j u q) = some (hv q)
    unfold vup
    rw [if_neg (fun h => e h.symm)]
  ·rw [List.getElem?_eq_none (by simp;omega)]
   by_cases e : j = q
   ·rw [if_pos e,if_neg (by omega)];rfl
   ·rw [if_neg e];rfl
 ·rw [upd_other _ _ _ _ (by intro e;cases e)];rfl
theorem JM.cong {cs' : Nat → List Int} (h : JM W B n hd hv vs cs lv es) (e : ∀ j,cs' j = cs j) : JM W B n hd hv vs cs' lv es:=by
 have : cs' = cs:=funext e
 rw [this]
 exact h
theorem JM.rCap (h : JM W B n hd hv vs cs lv es) (j : Nat) : ∃ a c,vs j = .slice a (cs j).length c ∧ (cs j).length ≤ c ∧ (a = none → c = 0) ∧ c ≤ maxLen:=by
 have ho : W.ownsRow B 3 1 (vs j) (cs j).length ((cs j).map (Value.int .i64)):=h.fam.own (some (some j))
 rcases ho.2 with ⟨e,h0⟩ | ⟨g,cap,cur,e,_,_,h1,h2,_⟩
 ·exact ⟨none,0,by rw [e,h0],by omega,fun _ => rfl,Nat.zero_le _⟩
 ·exact ⟨_,cap,e,h1,fun h => (by cases h),h2⟩
theorem JM.start {W0 : World} (hB : B ≤ W0.heap.size) (hb : Below W0.heap.size W0 W) (h : W.ownsRow W0.heap.size 23 1 hd n (List.replicate n (.slice none 0 0))) : JM W B n hd (fun _ => .slice none 0 0) (fun _ => .slice none 0 0) (fun _ => []) (.slice none 0 0) []:=by
 have h1:=Fam.none W0 B (fun i : Option (Option Nat) => match i with | none => 35 | some none => 23 | some (some _) => 3) (fun i => match i with | none => 2 | some _ => 1)
 have h2:=h1.fresh (some none) ⟨23,1,hd,n,List.replicate n (.slice none 0 0)⟩ hb (own_baseL h hB) (fun b e => own_blkI h b e)
 refine ⟨h2.congr (fun i => ?_)⟩
 rcases i with _ | _ | i
 ·rw [upd_other _ _ _ _ (by intro e;cases e)];rfl
 ·rw [upd_same]
  unfold fJ
  dsimp only
  congr 1
  unfold rwI
  apply List.ext_getElem?
  intro q
  rw [List.getElem?_map,List.getElem?_replicate]
  by_cases hq : q < n
  ·rw [List.getElem?_range hq,if_pos hq];rfl
  ·rw [List.getElem?_eq_none (by simp;omega),if_neg hq];rfl
 ·rw [upd_other _ _ _ _ (by intro e;cases e)];rfl
end
end LW
end Go.Proofs.Ythcndgnpmefefaa
