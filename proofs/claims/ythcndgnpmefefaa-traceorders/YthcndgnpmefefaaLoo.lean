/-
 A list of rows of numbers that grows: what the document's Way keeps of each event's edges.
-/
import Derived.Test.YthcndgnpmefefaaDcAo
set_option linter.unusedVariables false
set_option linter.unusedSimpArgs false
set_option maxRecDepth 100000
namespace Go.Proofs.Ythcndgnpmefefaa
open Mc Go.RowKit
namespace LW
section
variable {W W1 : World} {B n : Nat} {hd : Value} {hv vs : Nat → Value} {cs : Nat → List Int}
theorem LL.newR (h : LL W B n hd hv vs cs) (j : Nat) (hB : B ≤ W.heap.size) (hb : Below W.heap.size W W1) (r : List Int) (u : Value) (ho : W1.ownsRow W.heap.size 3 1 u r.length (r.map (Value.int .i64))) : LL W1 B n hd hv (vup vs j u) (put cs j r):=by
 have h1:=h.fam.fresh (W':=W1) (some j) ⟨3,1,u,r.length,r.map (Value.int .i64)⟩ hb (show World.ownsRow _ _ _ _ _ _ _ from own_baseL ho hB) (fun b e => own_blkI ho b e)
 refine ⟨h1.congr (fun i => ?_)⟩
 rcases i with _ | i
 ·rw [upd_other _ _ _ _ (by intro e;cases e)];rfl
 ·by_cases e : i = j
  ·subst e
   rw [upd_same]
   unfold fL put vup
   simp only [if_true]
  ·rw [upd_other _ _ _ _ (by intro e2;injection e2 with e2;exact e e2)]
   unfold fL put vup
   simp only [if_neg e]
theorem LL.appH (h : LL W B n hd hv vs cs) (x u : Value) (ho : W1.ownsRow B 23 1 u (n + 1) (rwI n hv ++ [x])) (hg : W.grownBy W1 hd.ownBlock) (hat : u.ownBlock = hd.ownBlock ∨ u.ownBlock = some W.heap.size) : LL W1 B (n + 1) u (vup hv n x) vs cs:=by
 have h1:=h.fam.grown (W':=W1) none ⟨23,1,u,n + 1,rwI n hv ++ [x]⟩ hg ho (hat.imp id (fun e b hb => by rw [e] at hb;injection hb with hb;omega))
 refine ⟨h1.congr (fun i => ?_)⟩
 rcases i with _ | i
 ·rw [upd_same]
  unfold fL
  dsimp only
  congr 1
  unfold rwI
  rw [List.range_succ,List.map_append]
  congr 1
  ·apply List.map_congr_left
   intro q hq
   have:=List.mem_range.1 hq
   unfold vup
   rw [if_neg (by omega)]
  ·simp [vup]
 ·rw [upd_other _ _ _ _ (by intro e;cases e)];rfl
theorem LL.setLow (h : LL W B n hd hv vs cs) (p q : Nat) (hp : p < B) (u : Value) : LL (W.setCell ⟨p,q,none⟩ u) B n hd hv vs cs:=⟨h.fam.keep (fun i b hb => by
 have h1 : B ≤ b:=own_blkI (h.fam.own i) b hb
 exact Below.heap_setCell _ _ _ _ (by show _ ≠ _;simp;omega))⟩
end
end LW
end Go.Proofs.Ythcndgnpmefefaa
