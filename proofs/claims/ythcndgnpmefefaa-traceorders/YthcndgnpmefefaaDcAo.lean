/-
  Dm, Dc, Ll in one.
-/
import Derived.Test.YthcndgnpmefefaaCkBo
import Derived.Test.YthcndgnpmefefaaDnAo
import Derived.Test.YthcndgnpmefefaaIn1o
import Derived.Test.YthcndgnpmefefaaCkCo
set_option linter.unusedVariables false
set_option linter.unusedSimpArgs false
set_option maxRecDepth 100000
namespace Go.Proofs.Ythcndgnpmefefaa
open Mc Go.RowKit
namespace LW
def ckRows (s : Syst) (l : List Ev) (m : Nat) (out : List Int) : List (List Int):=out.map (fun x => clL s l 0 m x.toNat)
end LW
end Go.Proofs.Ythcndgnpmefefaa
namespace Go.Proofs.Ythcndgnpmefefaa
open Go.RowKit
namespace LW
open Mc
theorem own_ltM {W : World} {B b n c m2 : Nat} {t : TypeId} {xs : List Value} (h : W.ownsRow B t 1 (.slice (some ⟨b,0,none⟩) n c) m2 xs) (hn : 0 < n) : b < W.heap.size:=by
 rcases h.2 with ⟨e,_⟩ | ⟨g,cap,cur,e,_,hh,_⟩
 ·cases e
 ·injection e with e1 _ _
  injection e1 with e1
  injection e1 with e1 _
  subst e1
  exact blk_lt hh
end LW
end Go.Proofs.Ythcndgnpmefefaa
set_option maxRecDepth 100000
namespace Go.Proofs.Ythcndgnpmefefaa
open Mc Go.RowKit
namespace LW
def fL (n : Nat) (hd : Value) (hv vs : Nat → Value) (cs : Nat → List Int) : Option Nat → Rw
 | none => ⟨23,1,hd,n,rwI n hv⟩
 | some j => ⟨3,1,vs j,(cs j).length,(cs j).map (Value.int .i64)⟩
structure LL (W : World) (B n : Nat) (hd : Value) (hv vs : Nat → Value) (cs : Nat → List Int) : Prop where
 fam : Fam W B (fL n hd hv vs cs)
section
variable {W W1 : World} {B n : Nat} {hd : Value} {hv vs : Nat → Value} {cs : Nat → List Int}
theorem LL.below (h : LL W B n hd hv vs cs) (hb : Below W.heap.size W W1) : LL W1 B n hd hv vs cs:=⟨h.fam.below hb⟩
theorem LL.nil0 (W : World) (B : Nat) : LL W B 0 (.slice none 0 0) (fun _ => .slice none 0 0) (fun _ => .slice none 0 0) (fun _ => []):=by
 have h:=Fam.none W B (fun i : Option Nat => match i with | none => 23 | some _ => 3) (fun _ => 1)
 refine ⟨h.congr (fun i => ?_)⟩
 rcases i with _ | j <;> rfl
theorem LL.of {o : World} {G : Nat} {cl ag : Nat → List Int} {hs : List Value} {v : Oc → Value} (h : CM o W G n cl ag hs v) : LL W o.heap.size n (v Oc.li) (fun j => v (Oc.cl j)) (fun j => v (Oc.cl j)) cl:=by
 let nm : Option Nat → Oc:=fun i => match i with | none => Oc.li | some j => Oc.cl j
 have e : ∀ i,fL n (v Oc.li) (fun j => v (Oc.cl j)) (fun j => v (Oc.cl j)) cl i = fc G n cl ag hs v (nm i):=fun i => by rcases i with _ | j <;> rfl
 refine ⟨⟨fun i => by rw [e];exact h.fam.own (nm i),fun i j b hi hj => ?_⟩⟩
 rw [e] at hi hj
 have:=h.fam.dis _ _ b hi hj
 rcases i with _ | i <;> rcases j with _ | j
 ·rfl
 ·cases this
 ·cases this
 ·injection this with h1
  injection h1 with h1
  rw [h1]
theorem LL.hAt (h : LL W B n hd hv vs cs) (j : Nat) (hj : j < n) : ∃ b cap,hd = .slice (some ⟨b,0,none⟩) n cap ∧ B ≤ b ∧ W.cell? ⟨b,j,none⟩ = some (hv j) ∧ W.frozen? ⟨b,j,none⟩ = false:=by
 have hl : j < (fL n hd hv vs cs none).con.length:=by show j < (rwI n hv).length;rw [rwI_len];exact hj
 obtain ⟨b,cap,e,h1,h2,h3⟩:=h.fam.cell none j hl
 refine ⟨b,cap,e,h1,?_,h3⟩
 rw [h2]
 show some ((rwI n hv).getD j (.bool false)) = _
 rw [List.getD_eq_getElem?_getD,rwI_get n _ j hj]
 rfl
theorem LL.hIs (h : LL W B n hd hv vs cs) : ∃ a c,hd = .slice a n c:=own_openE (h.fam.own none)
theorem LL.rIs (h : LL W B n hd hv vs cs) (j : Nat) : ∃ a c,vs j = .slice a (cs j).length c ∧ NR W a (cs j):=by
 have ho : W.ownsRow B 3 1 (vs j) (cs j).length ((cs j).map (Value.int .i64)):=h.fam.own (some j)
 exact nr_own9 ho
theorem LL.rAt (h : LL W B n hd hv vs cs) (j p : Nat) (hp : p < (cs j).length) : ∃ b cap,vs j = .slice (some ⟨b,0,none⟩) (cs j).length cap ∧ B ≤ b ∧ W.cell? ⟨b,p,none⟩ = some (.int .i64 ((cs j).getD p 0)) ∧ W.frozen? ⟨b,p,none⟩ = false:=by
 have hl : p < (fL n hd hv vs cs (some j)).con.length:=by show p < ((cs j).map _).length;rw [List.length_map];exact hp
 obtain ⟨b,cap,e,h1,h2,h3⟩:=h.fam.cell (some j) p hl
 refine ⟨b,cap,e,h1,?_,h3⟩
 rw [h2]
 show some (((cs j).map (Value.int .i64)).getD p (.bool false)) = _
 rw [List.getD_eq_getElem?_getD,List.getElem?_map,List.getD_eq_getElem?_getD,List.getElem?_eq_getElem hp]
 rfl
def vup (v : Nat → Value) (j : Nat) (u : Value) : Nat → Value:=fun i => if i = j then u else v i
theorem LL.setR (h : LL W B n hd hv vs cs) (j p : Nat) (x : Int) {b c : Nat} (hvj : vs j = .slice (some ⟨b,0,none⟩) (cs j).length c) : LL (W.setCell ⟨b,p,none⟩ (.int .i64 x)) B n hd hv vs (put cs j ((cs j).set p x)):=by
 have h1:=h.fam.set (some j) (b:=b) (n:=(cs j).length) (cap:=c) hvj rfl p (.int .i64 x)
 refine ⟨h1.congr (fun i => ?_)⟩
 rcases i with _ | i
 ·rw [upd_other _ _ _ _ (by intro e;cases e)];rfl
 ·by_cases e : i = j
  ·subst e
   rw [upd_same]
   show fL n hd hv vs (put cs i ((cs i).set p x)) (some i) = _
   unfold fL put
   simp only [if_true,List.length_set,List.map_set]
  ·rw [upd_other _ _ _ _ (by intro e2;injection e2 with e2;exact e e2)]
   unfold fL put
   simp only [if_neg e]
theorem LL.appR (h : LL W B n hd hv vs cs) (j : Nat) (xs : List Int) (u : Value) (ho : W1.ownsRow B 3 1 u ((cs j).length + xs.length) ((cs j).map (Value.int .i64) ++ xs.map (Value.int .i64))) (hg : W.grownBy W1 (vs j).ownBlock) (hat : u.ownBlock = (vs j).ownBlock ∨ u.ownBlock = some W.heap.size) : LL W1 B n hd hv (vup vs j u) (put cs j (cs j ++ xs)):=by
 have h1:=h.fam.grown (some j) ⟨3,1,u,(cs j).length + xs.length,(cs j).map (Value.int .i64) ++ xs.map (Value.int .i64)⟩ hg ho (hat.imp id (fun e b hb => by rw [e] at hb;injection hb with hb;omega))
 refine ⟨h1.congr (fun i => ?_)⟩
 rcases i with _ | i
 ·rw [upd_other _ _ _ _ (by intro e;cases e)];rfl
 ·by_cases e : i = j
  ·subst e
   rw [upd_same]
   unfold fL put vup
   simp only [if_true,List.length_append,List.map_append]
  ·rw [upd_other _ _ _ _ (by intro e2;injection e2 with e2;exact e e2)]
   unfold fL put vup
   simp only [if_neg e]
theorem LL.setH (h : LL W B n hd hv vs cs) (j : Nat) (u : Value) {b c : Nat} (hvj : hd = .slice (some ⟨b,0,none⟩) n c) : LL (W.setCell ⟨b,j,none⟩ u) B n hd (vup hv j u) vs cs:=by
 have h1:=h.fam.set none (b:=b) (n:=n) (cap:=c) hvj rfl j u
 refine ⟨h1.congr (fun i => ?_)⟩
 rcases i with _ | i
 ·rw [upd_same]
  unfold fL
  dsimp only
  congr 1
  unfold rwI
  apply List.ext_getElem?
  intro q
  rw [List.getElem?_set,List.getElem?_map,List.getElem?_map,List.length_map,List.length_range]
  by_cases hq : q < n
  ·rw [List.getElem?_range hq]
   by_cases e : j = q
   ·subst e
    rw [if_pos rfl,if_pos hq]
    simp [vup]
   ·rw [if_neg e]
    show some (vup hv j u q) = some (hv q)
    unfold vup
    rw [if_neg (fun h => e h.symm)]
  ·rw [List.getElem?_eq_none (by simp;omega)]
   by_cases e : j = q
   ·rw [if_pos e,if_neg (by omega)];rfl
   ·rw [if_neg e];rfl
 ·rw [upd_other _ _ _ _ (by intro e;cases e)];rfl
end
def clC (s : Syst) (l : List Ev) : Nat → List Int:=fun j => if clE s l = 0 then (if j < l.length then clL s l 0 (Tr.rnC l) j else []) else []
end LW
end Go.Proofs.Ythcndgnpmefefaa
