/-
 Rows that the shelf's calls leave; a queue (a slice that begins behind its block's start); a map of edges.
-/
import Derived.Maps.AppendAt
import Derived.Maps.OwnSet
import Derived.Sort.Grow
import Derived.OwnWalk
set_option maxRecDepth 100000
set_option linter.unusedVariables false
set_option linter.unusedSimpArgs false
namespace Go.Proofs.YtdjanbojhblijaaGreat
open Go Go.RowKit Go.Sort
open Go.Maps (Keyed)
namespace LW
theorem putRow_at {W : World} {g : Nat} {cur : Array Value} {t : TypeId} {fr : Nat × Nat} (hg : W.heap[g]? = some (.cells cur t fr)) (d : List Int) : (putRow (Value.int .i64) W g 0 d.toArray).heap[g]? = some (.cells (putCells (Value.int .i64) 0 d.toArray cur) t fr) := by
 unfold putRow mapBlock
 dsimp only
 rw [Array.getElem?_modify, if_pos rfl, hg]
 rfl
theorem putRow_off (W : World) (g k : Nat) (d : List Int) (h : k ≠ g) : (putRow (Value.int .i64) W g 0 d.toArray).heap[k]? = W.heap[k]? := by
 unfold putRow mapBlock
 dsimp only
 rw [Array.getElem?_modify, if_neg (fun e => h e.symm)]
theorem putCells_take (d : List Int) (cur : Array Value) (h : d.length ≤ cur.size) : (putCells (Value.int .i64) 0 d.toArray cur).toList.take d.length = d.map (Value.int .i64) := by
 apply List.ext_getElem?
 intro k
 by_cases hk : k < d.length
 ·have hc : k < cur.size := by omega
  rw [List.getElem?_take_of_lt hk, Array.getElem?_toList, List.getElem?_map, List.getElem?_eq_getElem hk]
  unfold putCells
  rw [Array.getElem?_mapIdx, Array.getElem?_eq_getElem hc, Option.map_some, if_pos ⟨Nat.zero_le _, by simpa using hk⟩]
  simp [hk]
 ·rw [List.getElem?_eq_none (by rw [List.length_take]; omega), List.getElem?_eq_none (by rw [List.length_map]; omega)]
/-- A row of one's own, whose cells are written anew. -/
theorem own_put {W : World} {base g n cap : Nat} {t : TypeId} {xs : List Value} (h : W.ownsRow base t 1 (.slice (some ⟨g, 0, none⟩) n cap) n xs) (d : List Int) (hd : d.length = n) : (putRow (Value.int .i64) W g 0 d.toArray).ownsRow base t 1 (.slice (some ⟨g, 0, none⟩) n cap) n (d.map (Value.int .i64)) := by
 refine ⟨by rw [List.length_map, hd, Nat.mul_one], ?_⟩
 rcases h.2 with ⟨e, _⟩ | ⟨g2, cap2, cur, e, h1, h2, h3, h4, h5, h6⟩
 ·cases e
 ·injection e with e1 _ e3
  injection e1 with e1
  injection e1 with e1
  subst e1 e3
  refine .inr ⟨g, cap, _, rfl, h1, putRow_at h2 d, h3, h4, ?_, ?_⟩
  ·unfold putCells
   rw [Array.size_mapIdx]
   exact h5
  ·rw [Nat.mul_one, ← hd]
   exact putCells_take d cur (by omega)
theorem own_holds {W : World} {base g n cap : Nat} {t : TypeId} {zs : List Int} (h : W.ownsRow base t 1 (.slice (some ⟨g, 0, none⟩) n cap) n (zs.map (Value.int .i64))) : Holds (Value.int .i64) W g 0 zs.toArray := by
 intro j hj
 have hj' : j < zs.length := by simpa using hj
 have hc := h.cells (g := g) rfl j (.int .i64 (zs.toArray[j]!)) (by rw [List.getElem?_map, List.getElem?_eq_getElem hj']; simp [hj'])
 have ea : (⟨g, 0, none⟩ : Addr).add j = ⟨g, 0 + j, none⟩ := by unfold Addr.add; split <;> simp_all
 rw [ea] at hc
 refine ⟨hc, ?_⟩
 rcases h.2 with ⟨e, _⟩ | ⟨g2, cap2, cur, e, h1, h2, _⟩
 ·cases e
 ·injection e with e1 _ _
  injection e1 with e1
  injection e1 with e1
  subst e1
  unfold World.frozen?
  rw [h2]
  simp
theorem below_put {W0 W : World} {B g : Nat} (h : Below B W0 W) (hg : B ≤ g) (d : List Int) : Below B W0 (putRow (Value.int .i64) W g 0 d.toArray) :=
 ⟨h.os, h.tape, h.output, by rw [size_putRow]; exact h.size, fun k hk => by rw [putRow_off _ _ _ _ (by omega)]; exact h.block k hk⟩
theorem below_ahead {W0 W : World} {B : Nat} (h : Below B W0 W) (n : Nat) : Below B W0 (Go.Sort.ahead W n) := ⟨h.os, h.tape, h.output, h.size, h.block⟩
theorem below_grow {W0 W : World} {B : Nat} (h : Below B W0 W) (hB : B ≤ W.heap.size) (os : Array Obj) : Below B W0 (grow W os) :=
 ⟨h.os, h.tape, h.output, by rw [size_grow]; have := h.size; omega, fun k hk => by
  rw [← h.block k hk]
  unfold grow
  dsimp only
  rw [Array.getElem?_append_left (by omega)]⟩
theorem own_grow {W : World} {base n k : Nat} {t : TypeId} {v : Value} {xs : List Value} (h : W.ownsRow base t k v n xs) (os : Array Obj) : (grow W os).ownsRow base t k v n xs := by
 refine ⟨h.1, ?_⟩
 rcases h.2 with h2 | ⟨g, cap, cur, e, h1, h2, h3⟩
 ·exact .inl h2
 ·refine .inr ⟨g, cap, cur, e, h1, ?_, h3⟩
  unfold grow
  dsimp only
  rw [Array.getElem?_append_left (by rcases Nat.lt_or_ge g W.heap.size with h | h; exact h; rw [Array.getElem?_eq_none h] at h2; cases h2)]
  exact h2
/-- A slice of one's own block, that may begin behind the block's start. -/
def OQ (w : World) (base : Nat) (e : TypeId) (size : Nat) (v : Value) (n : Nat) (xs : List Value) : Prop :=
 xs.length = n * size ∧ ∃ g p cap cur, v = .slice (some ⟨g, p * size, none⟩) n cap ∧ base ≤ g ∧ w.heap[g]? = some (.cells cur e (0, 0)) ∧ n ≤ cap ∧ cap ≤ maxLen ∧ (p + cap) * size ≤ cur.size ∧ (cur.toList.drop (p * size)).take (n * size) = xs
theorem OQ.keep {w w' : World} {base : Nat} {e : TypeId} {size : Nat} {v : Value} {n : Nat} {xs : List Value} (h : OQ w base e size v n xs) (hk : ∀ g, v.ownBlock = some g → w'.heap[g]? = w.heap[g]?) : OQ w' base e size v n xs := by
 obtain ⟨h1, g, p, cap, cur, rfl, h2, h3, h4⟩ := h
 exact ⟨h1, g, p, cap, cur, rfl, h2, by rw [hk g rfl]; exact h3, h4⟩
theorem OQ.lt {w : World} {base : Nat} {e : TypeId} {size : Nat} {v : Value} {n : Nat} {xs : List Value} (h : OQ w base e size v n xs) : ∀ g, v.ownBlock = some g → base ≤ g ∧ g < w.heap.size := by
 obtain ⟨h1, g, p, cap, cur, rfl, h2, h3, h4⟩ := h
 intro k hk
 injection hk with hk
 subst hk
 refine ⟨h2, ?_⟩
 rcases Nat.lt_or_ge g w.heap.size with h | h
 ·exact h
 ·rw [Array.getElem?_eq_none h] at h3; cases h3
theorem OQ.below {w w' : World} {base : Nat} {e : TypeId} {size : Nat} {v : Value} {n : Nat} {xs : List Value} (h : OQ w base e size v n xs) (hb : Below w.heap.size w w') : OQ w' base e size v n xs := h.keep (fun g hg => hb.block g (h.lt g hg).2)
theorem OQ.cells {w : World} {base : Nat} {e : TypeId} {size : Nat} {g o n cap : Nat} {xs : List Value} (h : OQ w base e size (.slice (some ⟨g, o, none⟩) n cap) n xs) : ∀ j u, xs[j]? = some u → w.cell? ⟨g, o + j, none⟩ = some u := by
 obtain ⟨h1, g2, p, cap2, cur, e2, q1, q2, q3, q4, q5, q6⟩ := h
 injection e2 with e3 _ _
 injection e3 with e3
 injection e3 with e3 e4
 subst e3 e4
 intro j u hj
 have hlt : j < xs.length := (List.getElem?_eq_some_iff.1 hj).1
 have hj2 : j < n * size := by omega
 rw [← q6, List.getElem?_take_of_lt hj2, List.getElem?_drop, Array.getElem?_toList] at hj
 unfold World.cell?
 rw [q2]
 simpa using hj
/-- What is left of it behind its first element. -/
theorem OQ.tail {w : World} {base : Nat} {e : TypeId} {size : Nat} {g o n cap : Nat} {xs : List Value} (h : OQ w base e size (.slice (some ⟨g, o, none⟩) (n + 1) cap) (n + 1) xs) : OQ w base e size (.slice (if cap = 1 then some ⟨g, o, none⟩ else some ⟨g, o + size, none⟩) n (cap - 1)) n (xs.drop size) := by
 obtain ⟨h1, g2, p, cap2, cur, e2, q1, q2, q3, q4, q5, q6⟩ := h
 injection e2 with e3 _ e5
 injection e3 with e3
 injection e3 with e3 e4
 subst e3 e4 e5
 have hx : xs.drop size = (cur.toList.drop ((p + 1) * size)).take (n * size) := by
  rw [← q6, List.drop_take, List.drop_drop]
  congr 1
  ·rw [Nat.add_mul, Nat.one_mul, Nat.add_sub_cancel]
  ·rw [Nat.add_mul, Nat.one_mul]
 refine ⟨by rw [List.length_drop, h1, Nat.add_mul, Nat.one_mul]; omega, ?_⟩
 by_cases hc : cap = 1
 ·subst hc
  rw [if_pos rfl]
  obtain rfl : n = 0 := by omega
  refine ⟨g, p, 0, cur, rfl, q1, q2, by omega, Nat.zero_le _, ?_, ?_⟩
  ·rw [Nat.add_zero]
   rw [Nat.add_mul] at q5
   omega
  ·rw [hx]
   simp
 ·rw [if_neg hc]
  refine ⟨g, p + 1, cap - 1, cur, by rw [Nat.add_mul, Nat.one_mul], q1, q2, by omega, by omega, ?_, hx.symm⟩
  rw [show p + 1 + (cap - 1) = p + cap by omega]
  exact q5
section
variable {P : Program} (w : World)
/-- 'm[k]' of a map of one's own, whatever its elements. -/
theorem wpList_lookup_own_g {H : Type} {ops : Array Oper} {rest : List Oper} {o : Oper} {a : Act} {Q : Exit → Act → World → Prop}
  (hg : o.guard = none) (m x : Operand) (t : TypeId) (hop : o.op = Op.lookup t m x false)
  (k e : TypeId) (K : Keyed P k) (ht : P.underlying t = some (.map k e)) (R : Value → Option (DataW H × List MemPlace)) {z : Value} (hz : (zeroValue e).run P w = .ok z w) (zd : DataW H) (zp : List MemPlace) (hzd : R z = some (zd, zp)) (b n : Nat) (D : DataW H)
  (hm : a.eval m = .map (some b)) (hown : w.ownsMap P k R b n D) (key : Value) (kl : Lit) (hx : a.eval x = key) (hkey : keyOf P k key = some kl)
  (hK : ∀ v ps, R v = some (D.atKey kl zd, ps) → wpList P ops Q rest (a.put o.dst v) w) :
  wpList P ops Q (o :: rest) a w := by
 refine wpList_plain hg fun K' hK' => ?_
 obtain ⟨v, ps, hrun, hv⟩ := hown.lookup K ht hz hzd hkey
 unfold Oper.wp
 simp [execOp, hop, hm, hx, hrun, Result.andThen]
 exact hK' _ _ (hK v ps hv)
end
/-- How an edge in a map reads. -/
def edR (v : Value) : Option (DataW Unit × List MemPlace) := match v with
 | .agg cs => match cs.toList with
  | [.int .i64 f, .int .i64 t] => some (.agg [.lit (.int .i64 f), .lit (.int .i64 t)], [])
  | _ => none
 | _ => none
theorem edR_inv {v : Value} {f t : Int} {ps : List MemPlace} (h : edR v = some (.agg [.lit (.int .i64 f), .lit (.int .i64 t)], ps)) : v = .agg #[.int .i64 f, .int .i64 t] := by
 unfold edR at h
 split at h
 ·rename_i cs
  split at h
  ·rename_i f2 t2 hc
   simp at h
   obtain ⟨⟨rfl, rfl⟩, _⟩ := h
   congr 1
   rw [← Array.toList_inj]
   exact hc
  ·cases h
 ·cases h
end LW
end Go.Proofs.YtdjanbojhblijaaGreat
