/-
  What the laws' call spoil does: of all that was there only the row that it is handed is changed, and bytes stay bytes, in whatever rows.
-/
import Derived.Test.YthbakhgfnfdahabClone
import Derived.Test.YthbakhgfnfdahabCheck
import Derived.Maps.AppendAt
import Derived.Handy
namespace Go.Proofs.Ythbakhgfnfdahab
open Go.RowKit Go.ChangeShapes
set_option linter.unusedVariables false
set_option linter.unusedSimpArgs false
namespace LW
open Words
/-- Rows of bytes stay rows of bytes, as long as they were. -/
def U1 (w w' : World) : Prop := ∀ (b : Nat) (cs : Array Value), w.heap[b]? = some (.cells cs 5 (0, 0)) → ∃ cs' : Array Value, w'.heap[b]? = some (.cells cs' 5 (0, 0)) ∧ cs'.size = cs.size ∧ ∀ (i : Nat) (z : Int), cs[i]? = some (Value.int .u8 z) → ∃ z' : Int, cs'[i]? = some (Value.int .u8 z')
/-- Cells of any other type stay what they were. -/
def U2 (w w' : World) : Prop := ∀ (b : Nat) (cs : Array Value) (t : TypeId) (f : Nat × Nat), w.heap[b]? = some (.cells cs t f) → t ≠ 5 → w'.heap[b]? = some (.cells cs t f)
structure U (w w' : World) : Prop where
  one : U1 w w'
  two : U2 w w'
theorem U.refl (w : World) : U w w := ⟨fun b cs h => ⟨cs, h, rfl, fun i z hz => ⟨z, hz⟩⟩, fun _ _ _ _ h _ => h⟩
theorem U.trans {a b c : World} (h : U a b) (k : U b c) : U a c := ⟨fun x cs hx => by
  obtain ⟨cs', h1, h2, h3⟩ := h.one x cs hx
  obtain ⟨cs2, k1, k2, k3⟩ := k.one x cs' h1
  refine ⟨cs2, k1, k2.trans h2, fun i z hz => ?_⟩
  obtain ⟨z', hz'⟩ := h3 i z hz
  exact k3 i z' hz', fun x cs t f hx ht => k.two x cs t f (h.two x cs t f hx ht) ht⟩
theorem U.of_keep {w w' : World} (h : ∀ (b : Nat) (o : Obj), w.heap[b]? = some o → w'.heap[b]? = some o) : U w w' := ⟨fun b cs hx => ⟨cs, h b _ hx, rfl, fun i z hz => ⟨z, hz⟩⟩, fun b cs t f hx _ => h b _ hx⟩
theorem U.alloc {w w' : World} (h : U w w') (o : Obj) : U w (w'.alloc o) := h.trans (U.of_keep fun b o' hb => by
  rw [Below.heap_alloc _ _ _ (Array.getElem?_eq_some_iff.1 hb).1]; exact hb)
theorem U.below {w w' : World} (hb : Below w.heap.size w w') : U w w' := U.of_keep fun b o h => by
  rw [hb.block b (Array.getElem?_eq_some_iff.1 h).1]; exact h
theorem U.setCell {w w' : World} (h : U w w') (g o : Nat) (x : Int) (cs0 : Array Value) (hg : w'.heap[g]? = some (.cells cs0 5 (0, 0))) : U w (w'.setCell ⟨g, o, none⟩ (.int .u8 x)) := h.trans ⟨fun b cs hx => by
  by_cases e : b = g
  · subst e
    refine ⟨cs.setIfInBounds o (.int .u8 x), heap_setCell_same _ _ _ _ _ _ hx, by simp, fun i z hz => ?_⟩
    by_cases ei : o = i
    · subst ei
      have hlt : o < cs.size := (Array.getElem?_eq_some_iff.1 hz).1
      exact ⟨x, by simp [hlt]⟩
    · exact ⟨z, by rw [Array.getElem?_setIfInBounds_ne ei]; exact hz⟩
  · exact ⟨cs, by rw [heap_setCell_other _ _ _ _ e]; exact hx, rfl, fun i z hz => ⟨z, hz⟩⟩, fun b cs t f hx ht => by
  by_cases e : b = g
  · subst e
    rw [hg] at hx
    simp at hx
    exact absurd hx.2.1.symm ht
  · rw [heap_setCell_other _ _ _ _ e]; exact hx⟩
/-- An own row of bytes is one behind such a change too, whatever bytes it then holds. -/
theorem own_U {w w' : World} {B n : Nat} {v : Value} {zs : List Int} (h : w.ownsRow B 5 1 v n (vs zs)) (hu : U w w') : ∃ ys, w'.ownsRow B 5 1 v n (vs ys) := by
  rcases h.2 with ⟨rfl, rfl⟩ | ⟨g, cap, cur, rfl, hg, hh, hn, hm, hc, ht⟩
  · exact ⟨[], World.ownsRow_nil _ _ _ _⟩
  · obtain ⟨cs', h1, h2, h3⟩ := hu.one g cur hh
    have hl : zs.length = n := by have := h.1; rw [vs_length] at this; omega
    have hel : ∀ i, i < n → ∃ z', cs'[i]? = some (.int .u8 z') := fun i hi => by
      refine h3 i (zs.getD i 0) ?_
      have : (cur.toList.take (n * 1))[i]? = some (.int .u8 (zs.getD i 0)) := by rw [ht]; exact vs_get zs i (by omega)
      rw [List.getElem?_take, if_pos (by omega)] at this
      simpa using this
    refine ⟨(cs'.toList.take n).map fun v => match v with | .int _ z => z | _ => 0, ?_, .inr ⟨g, cap, cs', rfl, hg, h1, hn, hm, by omega, ?_⟩⟩
    · rw [vs_length, List.length_map, List.length_take, Array.length_toList]; omega
    · rw [Nat.mul_one]
      apply List.ext_getElem?
      intro i
      rcases Nat.lt_or_ge i n with hi | hi
      · obtain ⟨z', hz⟩ := hel i hi
        have hz' : cs'.toList[i]? = some (.int .u8 z') := by simpa using hz
        simp only [vs, List.map_map, List.getElem?_map, List.getElem?_take, hi, if_true, hz', Option.map_some]
        rfl
      · rw [List.getElem?_eq_none (by rw [List.length_take]; omega), List.getElem?_eq_none (by rw [vs_length, List.length_map, List.length_take]; omega)]
theorem U.row {w : World} {g n : Nat} {cur : Array Value} {x : Int} (hh : w.heap[g]? = some (.cells cur 5 (0, 0))) (hfit : n + 1 ≤ cur.size) : U w (w.setRow g (cur.toList.take n ++ [Value.int .u8 x] ++ cur.toList.drop (n + 1)).toArray) := ⟨fun b cs hx => by
  by_cases e : b = g
  · subst e
    obtain rfl : cs = cur := by rw [hh] at hx; simpa using hx.symm
    refine ⟨_, setRow_heap _ _ _ _ _ _ hh, by simp; omega, fun i z hz => ?_⟩
    have hz' : cs.toList[i]? = some (.int .u8 z) := by simpa using hz
    have hlt : (cs.toList.take n).length = n := by rw [List.length_take, Array.length_toList]; omega
    simp only [List.getElem?_toArray]
    rcases Nat.lt_trichotomy i n with hi | hi | hi
    · exact ⟨z, by rw [List.append_assoc, List.getElem?_append_left (by omega), List.getElem?_take, if_pos hi]; exact hz'⟩
    · exact ⟨x, by rw [List.append_assoc, List.getElem?_append_right (by omega), hlt, hi]; simp⟩
    · refine ⟨z, ?_⟩
      rw [List.getElem?_append_right (by simp; omega), List.getElem?_drop]
      rw [← hz']
      congr 1
      simp
      omega
  · exact ⟨cs, by rw [setRow_other _ _ _ _ e]; exact hx, rfl, fun i z hz => ⟨z, hz⟩⟩, fun b cs t f hx ht => by
  by_cases e : b = g
  · subst e
    rw [hh] at hx
    simp at hx
    exact absurd hx.2.1.symm ht
  · rw [setRow_other _ _ _ _ e]; exact hx⟩
theorem U.drew_alloc (w : World) (o : Obj) : U w (w.drew.alloc o) := U.of_keep fun b o' hb => by
  rw [Below.heap_alloc _ _ _ (show b < w.drew.heap.size from (Array.getElem?_eq_some_iff.1 hb).1)]; exact hb
/-- 'append(s, x)' of one byte onto a row of the call's own. -/
theorem wpList_append_byte {w : World} {ops : Array Oper} {rest : List Oper} {o : Oper} {a : Act} {Q : Exit → Act → World → Prop} (hgd : o.guard = none) (s x : Operand)
    (ho : o.op = .call { callee := .builtin .append, args := #[s, x], argTypes := #[22, 22] }) (base : Nat) (v : Value) (n : Nat) (zs : List Int) (hs : a.eval s = v) (hown : w.ownsRow base 5 1 v n (vs zs)) (ad : Addr) (c : Nat) (y : Int) (hx : a.eval x = .slice (some ad) 1 c)
    (hnews : ∀ j u, [Value.int .u8 y][j]? = some u → w.cell? (ad.add j) = some u) (hb : n + 1 ≤ 140737488355328) (hbase : base ≤ w.heap.size)
    (h : ∀ v' w', w'.ownsRow base 5 1 v' (n + 1) (vs (zs ++ [y])) → w.grownBy w' v.ownBlock → (v'.ownBlock = v.ownBlock ∨ v'.ownBlock = some w.heap.size) → U w w' → wpList Try.prog ops Q rest (a.put o.dst v') w') : wpList Try.prog ops Q (o :: rest) a w := by
  obtain ⟨i, hi, hz0, hz1, hz2⟩ := info_parts info5
  have h63 : n + 1 ≤ maxLen := by unfold maxLen; omega
  obtain ⟨v', w', hr, h2, h3, _, h5⟩ := run_append_own_at (P := Try.prog) w base 22 o.type 5 i (.int .u8 0) 1 1 Try.underlying22 hi hz0 hz1 hz2 rfl (by decide) v n (vs zs) hown ad 1 c [.int .u8 y] rfl hnews (by intro u hu; simp at hu; subst hu; rfl) h63 (by omega) hbase
  have hU : U w w' := by
    rcases hown.2 with ⟨rfl, rfl⟩ | ⟨g, cap, cur, rfl, hg, hh, hn, hm, hc, ht⟩
    · have hr2 := run_append_nil (P := Try.prog) w 22 o.type 5 i (.int .u8 0) Try.underlying22 hi hz0 ad 1 c [.int .u8 y] (by rw [hz1]; rfl) hnews (by omega) (by omega) (by rw [hz2]; omega)
      rw [hr2] at hr
      injection hr with _ e
      rw [← e]
      exact U.drew_alloc _ _
    · by_cases hroom : n + 1 ≤ cap
      · have hr2 := run_append_room (P := Try.prog) w 22 o.type 5 i Try.underlying22 hi g n cap cur hh ad 1 c [.int .u8 y] (by rw [hz1]; rfl) hnews (by intro u hu; simp at hu; subst hu; rfl) hroom (by rw [hz1]; simp; omega)
        rw [hr2] at hr
        injection hr with _ e
        rw [← e, hz1, Nat.mul_one, List.length_singleton]
        have hfit : n + 1 ≤ cur.size := by rw [Nat.mul_one] at hc; omega
        exact U.row hh hfit
      · have hr2 := run_append_grow (P := Try.prog) w 22 o.type 5 i (.int .u8 0) Try.underlying22 hi hz0 ⟨g, 0, none⟩ n cap (vs zs) (by rw [hz1]; exact hown.1) (hown.cells (g := g) rfl) ad 1 c [.int .u8 y] (by rw [hz1]; rfl) hnews (by omega) (by omega) (growslice_fits (by omega) (by rw [hz2]; omega))
        rw [hr2] at hr
        injection hr with _ e
        rw [← e]
        exact U.drew_alloc _ _
  refine wpList_plain hgd fun K hK => ?_
  unfold Oper.wp execOp
  simp only [ho, resolve, invoke, builtin, Sem.run_bind, Sem.run_pure, Result.andThen_ok, List.map_toArray, List.map_cons, List.map_nil, hs, hx, hr]
  refine hK _ _ (h v' w' ?_ h3 h5 hU)
  rw [vs_append]; exact h2
theorem grown_refl (w : World) (row : Option Nat) : w.grownBy w row := ⟨rfl, rfl, rfl, Nat.le_refl _, fun _ _ _ => rfl⟩
theorem grown_setCell {w w' : World} {g o : Nat} {u : Value} (h : w.grownBy w' (some g)) : w.grownBy (w'.setCell ⟨g, o, none⟩ u) (some g) :=
  ⟨h.os, h.tape, h.output, by simpa using h.size, fun k hk hne => by rw [heap_setCell_other _ _ _ _ (fun e => hne (by rw [e]))]; exact h.block k hk hne⟩
theorem grown_alloc {w w' : World} {row : Option Nat} (h : w.grownBy w' row) (o : Obj) : w.grownBy (w'.alloc o) row :=
  ⟨h.os, h.tape, h.output, by have := h.size; simp; omega, fun k hk hne => by rw [Below.heap_alloc _ _ _ (Nat.lt_of_lt_of_le hk h.size)]; exact h.block k hk hne⟩
theorem grown_more {w w' w2 : World} {g : Nat} {row : Option Nat} (h : w.grownBy w' (some g)) (h2 : w'.grownBy w2 row) (hr : ∀ j, row = some j → j = g ∨ w.heap.size ≤ j) : w.grownBy w2 (some g) :=
  ⟨h2.os.trans h.os, h2.tape.trans h.tape, h2.output.trans h.output, Nat.le_trans h.size h2.size, fun k hk hne => by
    rw [h2.block k (Nat.lt_of_lt_of_le hk h.size) (fun e => by
      rcases hr k e.symm with rfl | h'
      · exact hne rfl
      · omega)]
    exact h.block k hk hne⟩
theorem vs_set (zs : List Int) (k : Nat) (q : Int) : (vs zs).set k (.int .u8 q) = vs (zs.set k q) := by simp [vs]
end LW
end Go.Proofs.Ythbakhgfnfdahab
