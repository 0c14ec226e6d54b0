/-
  Rows of slices whose parts are filled one behind the other: what is kept of memory (no walk yet).
-/
import Derived.Test.YthbakhgfnfdahabLanesB
import Derived.Test.YthbakhgfnfdahabSpoilU
import Derived.OwnWalk
namespace Go.Proofs.Ythbakhgfnfdahab
open Go.RowKit Go.ChangeShapes
set_option linter.unusedVariables false
set_option linter.unusedSimpArgs false
namespace LW
open Words
theorem info24 : (Try.prog.info? 22).map (fun i => (i.zero, i.size, i.bytes)) = some (some (.slice none 0 0), 1, 24) := by kernel_rfl
theorem own_full {w : World} {B g n t : Nat} {xs : List Value} (h : w.ownsRow B t 1 (.slice (some ⟨g, 0, none⟩) n n) n xs) : w.heap[g]? = some (.cells xs.toArray t (0, 0)) ∧ B ≤ g := by
  rcases h.2 with ⟨h', _⟩ | ⟨g', cap', cur, h', hb, hg, _, _, hcs, htake⟩
  · simp at h'
  · simp only [Value.slice.injEq, Option.some.injEq, Addr.mk.injEq, and_true, true_and] at h'
    obtain ⟨rfl, rfl⟩ := h'
    rw [List.take_of_length_le (by simp [hcs])] at htake
    subst htake
    exact ⟨by simpa using hg, hb⟩
theorem own_mono' {w : World} {B B' n : Nat} {v : Value} {xs : List Value} (h : w.ownsRow B 5 1 v n xs) (hb : B' ≤ B) : w.ownsRow B' 5 1 v n xs :=
  ⟨h.1, h.2.imp id (fun ⟨g, cap, cur, e, hg, rest⟩ => ⟨g, cap, cur, e, Nat.le_trans hb hg, rest⟩)⟩
theorem own_below {w w' : World} {B n : Nat} {v : Value} {xs : List Value} (h : w.ownsRow B 5 1 v n xs) (hb : Below w.heap.size w w') : w'.ownsRow B 5 1 v n xs := by
  obtain ⟨h1, h2⟩ := h
  refine ⟨h1, ?_⟩
  rcases h2 with h2 | ⟨g, cap, cur, e, hg, hh, rest⟩
  · exact .inl h2
  · exact .inr ⟨g, cap, cur, e, hg, by rw [hb.block g (Array.getElem?_eq_some_iff.1 hh).1]; exact hh, rest⟩
theorem own_grown {w w' : World} {B n : Nat} {v : Value} {xs : List Value} {row : Option Nat} (h : w.ownsRow B 5 1 v n xs) (hg : w.grownBy w' row) (hr : ∀ k, row = some k → v.ownBlock ≠ some k) : w'.ownsRow B 5 1 v n xs := by
  refine ⟨h.1, ?_⟩
  rcases h.2 with h | ⟨g, cap, cur, e, hb, hh, r⟩
  · exact .inl h
  · refine .inr ⟨g, cap, cur, e, hb, ?_, r⟩
    rw [hg.block g (Array.getElem?_eq_some_iff.1 hh).1 (fun e7 => hr g e7.symm (by rw [e]; rfl))]
    exact hh
theorem own_not {w : World} {B n g : Nat} {v : Value} {xs : List Value} {cs : Array Value} {t : TypeId} {fr : Nat × Nat} (h : w.ownsRow B 5 1 v n xs) (hg : w.heap[g]? = some (.cells cs t fr)) (ht : t ≠ 5) : v.ownBlock ≠ some g := by
  intro he
  rcases h.2 with ⟨rfl, _⟩ | ⟨g', cap, cur, rfl, hb, hh, r⟩
  · simp [Value.ownBlock] at he
  · simp [Value.ownBlock] at he
    subst he
    rw [hg] at hh
    simp at hh
    exact ht hh.2.1
theorem own_form {w : World} {B n : Nat} {v : Value} {xs : List Value} (h : w.ownsRow B 5 1 v n xs) : ∃ a cap, v = .slice a n cap := by
  rcases h.2 with ⟨rfl, rfl⟩ | ⟨g, cap, cur, rfl, _⟩
  · exact ⟨none, 0, rfl⟩
  · exact ⟨_, cap, rfl⟩
theorem own_lt {w : World} {B n k : Nat} {v : Value} {xs : List Value} (h : w.ownsRow B 5 1 v n xs) (hk : v.ownBlock = some k) : B ≤ k ∧ k < w.heap.size := by
  rcases h.2 with ⟨rfl, _⟩ | ⟨g', cap, cur, rfl, hb, hh, r⟩
  · simp [Value.ownBlock] at hk
  · simp [Value.ownBlock] at hk
    subst hk
    exact ⟨hb, (Array.getElem?_eq_some_iff.1 hh).1⟩
/-- Of the slices that block g holds each of the first i is a row of the call's own. -/
def Lst (w : World) (base g n : Nat) (L : Nat → List Int) (i : Nat) (qs : List Value) : Prop :=
  w.heap[g]? = some (.cells qs.toArray 22 (0, 0)) ∧ qs.length = n ∧ ∀ l, l < i → ∃ v, qs[l]? = some v ∧ w.ownsRow base 5 1 v (L l).length (vs (L l))
theorem Lst.below {w w' : World} {base g n i : Nat} {L : Nat → List Int} {qs : List Value} (h : Lst w base g n L i qs) (hb : Below w.heap.size w w') : Lst w' base g n L i qs :=
  ⟨blk_keep h.1 hb, h.2.1, fun l hl => by
    obtain ⟨v, h1, h2⟩ := h.2.2 l hl
    exact ⟨v, h1, own_below h2 hb⟩⟩
theorem Lst.lt {w : World} {base g n i : Nat} {L : Nat → List Int} {qs : List Value} (h : Lst w base g n L i qs) : g < w.heap.size := blk_lt h.1
theorem Lst.zero {w : World} {base g n : Nat} {L : Nat → List Int} {qs : List Value} (h : w.heap[g]? = some (.cells qs.toArray 22 (0, 0))) (hn : qs.length = n) : Lst w base g n L 0 qs := ⟨h, hn, fun l hl => absurd hl (Nat.not_lt_zero l)⟩
theorem ref_cell {w : World} {g i : Nat} {qs : List Value} {v : Value} (h : w.heap[g]? = some (.cells qs.toArray 22 (0, 0))) (hv : qs[i]? = some v) : w.cell? ⟨g, i, none⟩ = some v ∧ w.frozen? ⟨g, i, none⟩ = false :=
  ⟨blk_cell h (by simpa using hv), by simp [World.frozen?, h]⟩
/-- While lane i is being filled: it lies behind all that was there when it was made. -/
structure Ist (wi wr : World) (g i : Nat) (qs : List Value) (v : Value) (ys : List Int) : Prop where
  blk : wr.heap[g]? = some (.cells (qs.set i v).toArray 22 (0, 0))
  own : wr.ownsRow wi.heap.size 5 1 v ys.length (vs ys)
  gr : wi.grownBy wr (some g)
theorem Ist.cell {wi wr : World} {g i : Nat} {qs : List Value} {v : Value} {ys : List Int} (h : Ist wi wr g i qs v ys) (hi : i < qs.length) : wr.cell? ⟨g, i, none⟩ = some v ∧ wr.frozen? ⟨g, i, none⟩ = false := ref_cell h.blk (by simp [hi])
theorem Ist.keep {wi wr w2 : World} {g i : Nat} {qs : List Value} {v : Value} {ys : List Int} (h : Ist wi wr g i qs v ys) (hg : wr.grownBy w2 v.ownBlock) (hgi : g < wi.heap.size) : w2.heap[g]? = some (.cells (qs.set i v).toArray 22 (0, 0)) := by
  rw [hg.block g (blk_lt h.blk) (fun e => by have := own_lt h.own e.symm; omega)]
  exact h.blk
theorem Ist.step {wi wr w2 : World} {g i : Nat} {qs : List Value} {v v' : Value} {ys zs : List Int} (h : Ist wi wr g i qs v ys) (ho : w2.ownsRow wi.heap.size 5 1 v' (ys.length + zs.length) (vs (ys ++ zs))) (hg : wr.grownBy w2 v.ownBlock) (hgi : g < wi.heap.size) (hi : i < qs.length) :
    Ist wi (w2.setCell ⟨g, i, none⟩ v') g i qs v' (ys ++ zs) := by
  have hb := h.keep hg hgi
  refine ⟨?_, ?_, grown_setCell (grown_more h.gr hg fun j hj => .inr (own_lt h.own hj).1)⟩
  · rw [blk_set hb]
    simp
  · rw [List.length_append]
    exact ownsRow_setCell_below ho hgi v'
theorem Ist.begin {wi w2 : World} {base g n i c : Nat} {L : Nat → List Int} {qs : List Value} {v : Value} (hL : Lst wi base g n L i qs) (ho : w2.ownsRow wi.heap.size 5 1 v 0 []) (hg : wi.grownBy w2 none) : Ist wi (w2.setCell ⟨g, i, none⟩ v) g i qs v [] := by
  have hb : w2.heap[g]? = some (.cells qs.toArray 22 (0, 0)) := by rw [hg.block g hL.lt (by simp)]; exact hL.1
  refine ⟨?_, ownsRow_setCell_below ho hL.lt v, ?_⟩
  · rw [blk_set hb]; simp
  · exact grown_setCell ⟨hg.os, hg.tape, hg.output, hg.size, fun k hk hne => hg.block k hk (by simp)⟩
theorem Ist.done {wi wr : World} {base g n i : Nat} {L : Nat → List Int} {qs : List Value} {v : Value} (h : Ist wi wr g i qs v (L i)) (hL : Lst wi base g n L i qs) (hi : i < n) (hb : base ≤ wi.heap.size) : Lst wr base g n L (i + 1) (qs.set i v) := by
  refine ⟨h.blk, by simp [hL.2.1], fun l hl => ?_⟩
  by_cases e : l = i
  · subst e
    exact ⟨v, by simp [hL.2.1, hi], own_mono' h.own hb⟩
  · obtain ⟨u, h1, h2⟩ := hL.2.2 l (by omega)
    refine ⟨u, by rw [List.getElem?_set_ne (by omega)]; exact h1, own_grown h2 h.gr fun k hk => ?_⟩
    cases hk
    exact own_not h2 hL.1 (by decide)
theorem Ist.below {wi wr w2 : World} {g i : Nat} {qs : List Value} {v : Value} {ys : List Int} (h : Ist wi wr g i qs v ys) (hb : Below wr.heap.size wr w2) : Ist wi w2 g i qs v ys :=
  ⟨blk_keep h.blk hb, own_below h.own hb, hb.os.trans h.gr.os, hb.tape.trans h.gr.tape, hb.output.trans h.gr.output, Nat.le_trans h.gr.size hb.size, fun k hk hne => by rw [hb.block k (Nat.lt_of_lt_of_le hk h.gr.size)]; exact h.gr.block k hk hne⟩
theorem made_nils (n : Nat) : (madeCells (Value.slice none 0 0).cells (n * 1)).toList = List.replicate n (Value.slice none 0 0) := by
  have e : (Value.slice none 0 0).cells = #[.slice none 0 0] := rfl
  rw [e]
  simp [madeCells, Nat.mod_one, List.map_const']
theorem Row.sub {w : World} {b off : Nat} {zs : List Int} (h : Row w (some ⟨b, off, none⟩) zs) (o n : Nat) (hn : o + n ≤ zs.length) : Row w (some ⟨b, off + o, none⟩) ((zs.drop o).take n) := by
  rcases h with rfl | ⟨b', off', he, hc⟩
  · left; simp
  · cases he
    refine .inr ⟨b, off + o, rfl, fun i hi => ?_⟩
    have hin : i < n := by simp at hi; omega
    rw [Nat.add_assoc, hc (o + i) (by omega)]
    simp [List.getD_eq_getElem?_getD, List.getElem?_drop, hin]
/-- 'append(v, b...)' onto a row of the call's own, where the order is drawn. -/
theorem wp_append_bytes {w : World} {o : Oper} {a : Act} {K : Act → World → Prop} {Q : Exit → Act → World → Prop} (s x : Operand)
    (ho : o.op = .call { callee := .builtin .append, args := #[s, x], argTypes := #[22, 22] }) (base : Nat) (v : Value) (n : Nat) (ys : List Int) (hs : a.eval s = v) (hown : w.ownsRow base 5 1 v n (vs ys)) (ad : Addr) (c len : Nat) (zs : List Int) (hlen : zs.length = len) (hx : a.eval x = .slice (some ad) len c)
    (hr : Row w (some ad) zs) (hb : n + len ≤ 140737488355328) (hbase : base ≤ w.heap.size)
    (h : ∀ v' w', w'.ownsRow base 5 1 v' (n + len) (vs (ys ++ zs)) → w.grownBy w' v.ownBlock → (v'.ownBlock = v.ownBlock ∨ v'.ownBlock = some w.heap.size) → K (a.put o.dst v') w') : o.wp Try.prog a w K Q := by
  obtain ⟨i, hi, hz0, hz1, hz2⟩ := info_parts info5
  subst hlen
  have h63 : n + zs.length ≤ maxLen := by unfold maxLen; omega
  obtain ⟨v', w', hr, h2, h3, _, h5⟩ := run_append_own_at (P := Try.prog) w base 22 o.type 5 i (.int .u8 0) 1 1 Try.underlying22 hi hz0 hz1 hz2 rfl (by decide) v n (vs ys) hown ad zs.length c (vs zs) (by rw [vs_length, Nat.mul_one]) (row_cells hr (Below.refl _ _)) (oneCell_vs zs) h63 (by omega) hbase
  unfold Oper.wp execOp
  simp only [ho, resolve, invoke, builtin, Sem.run_bind, Sem.run_pure, Result.andThen_ok, List.map_toArray, List.map_cons, List.map_nil, hs, hx, hr]
  refine h v' w' ?_ h3 h5
  rw [vs_append]; exact h2
end LW
end Go.Proofs.Ythbakhgfnfdahab
