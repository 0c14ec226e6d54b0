/-
  A queue of numbers: a slice of one's own at whatever offset; one more behind, one less ahead.
-/
import Derived.Test.YtghpfhoajcgghaaSysE
import Derived.ArgAppend
namespace Go.Proofs.Ytghpfhoajcgghaa
open Go.RowKit
set_option linter.unusedVariables false
set_option linter.unusedSimpArgs false
namespace LW
open Mc
/-- A queue as it lies: in a block of numbers, at an offset, with room behind it. -/
def Qu (W : World) (v : Value) (xs : List Int) : Prop := (v = .slice none 0 0 ∧ xs = []) ∨ ∃ b off cap cur, v = .slice (some ⟨b, off, none⟩) xs.length cap ∧ W.heap[b]? = some (.cells cur 3 (0, 0)) ∧ off + cap ≤ cur.size ∧ xs.length ≤ cap ∧ ∀ j, j < xs.length → cur[off + j]? = some (.int .i64 (xs.getD j 0))
theorem Qu.keep {w w' : World} {v : Value} {xs : List Int} (h : Qu w v xs) (hk : ∀ b, v.ownBlock = some b → w'.heap[b]? = w.heap[b]?) : Qu w' v xs := by
  rcases h with h | ⟨b, off, cap, cur, rfl, hh, hs, hl, hc⟩
  · exact .inl h
  · exact .inr ⟨b, off, cap, cur, rfl, by rw [hk b (by simp [Value.ownBlock])]; exact hh, hs, hl, hc⟩
theorem Qu.below {w w' : World} {v : Value} {xs : List Int} (h : Qu w v xs) (hb : Below w.heap.size w w') : Qu w' v xs := by
  rcases h with h | ⟨b, off, cap, cur, rfl, hh, hs, hl, hc⟩
  · exact .inl h
  · exact .inr ⟨b, off, cap, cur, rfl, blk_keep hh hb, hs, hl, hc⟩
theorem Qu.cell {w : World} {v : Value} {xs : List Int} (h : Qu w v xs) (hp : 0 < xs.length) : ∃ b off cap, v = .slice (some ⟨b, off, none⟩) xs.length cap ∧ xs.length ≤ cap ∧ w.cell? ⟨b, off, none⟩ = some (.int .i64 (xs.getD 0 0)) := by
  rcases h with ⟨_, rfl⟩ | ⟨b, off, cap, cur, rfl, hh, hs, hl, hc⟩
  · simp at hp
  · refine ⟨b, off, cap, rfl, hl, blk_cell hh ?_⟩
    have := hc 0 hp
    rwa [Nat.add_zero] at this
/-- One less ahead. -/
theorem Qu.tail {w : World} {b off n cap : Nat} {xs : List Int} (h : Qu w (.slice (some ⟨b, off, none⟩) n cap) xs) (hp : 0 < xs.length) : Qu w (.slice (if cap = 1 then some ⟨b, off, none⟩ else some ⟨b, off + 1, none⟩) (n - 1) (cap - 1)) xs.tail := by
  rcases h with ⟨h, _⟩ | ⟨b', off', cap', cur, e, hh, hs, hl, hc⟩
  · cases h
  · injection e with e1 e2 e3
    injection e1 with e1
    injection e1 with e1 e4
    subst e1 e2 e3 e4
    have hlt : xs.tail.length = xs.length - 1 := List.length_tail
    by_cases hc1 : cap = 1
    · rw [if_pos hc1]
      refine .inr ⟨b, off, cap - 1, cur, by rw [hlt], hh, by omega, by omega, fun j hj => by omega⟩
    · rw [if_neg hc1]
      refine .inr ⟨b, off + 1, cap - 1, cur, by rw [hlt], hh, by omega, by omega, fun j hj => ?_⟩
      have := hc (j + 1) (by omega)
      rw [tail_getD, Nat.add_assoc, Nat.add_comm 1 j]
      exact this
theorem setCells_one (w : World) (b o : Nat) (v : Value) : w.setCells b o [v] = w.setCell ⟨b, o, none⟩ v := rfl
/-- One more behind. -/
theorem wp_append_q {o : Oper} {a : Act} {K : Act → World → Prop} {Q : Exit → Act → World → Prop} (w : World) (s x : Operand)
    (ho : o.op = .call { callee := .builtin .append, args := #[s, x], argTypes := #[24, 24] })
    (v : Value) (xs : List Int) (hs : a.eval s = v) (hq : Qu w v xs) (g : Nat) (y : Int) (hx : a.eval x = .slice (some ⟨g, 0, none⟩) 1 1) (hc : w.cell? ⟨g, 0, none⟩ = some (.int .i64 y)) (hl : xs.length + 1 ≤ 1048576)
    (h : ∀ v' w', Qu w' v' (xs ++ [y]) → (∀ b, b < w.heap.size → v.ownBlock ≠ some b → w'.heap[b]? = w.heap[b]?) → w.heap.size ≤ w'.heap.size → (v'.ownBlock = v.ownBlock ∨ ∃ b, v'.ownBlock = some b ∧ w.heap.size ≤ b) → (∀ B o, Below B o w → B ≤ w.heap.size → (∀ b, v.ownBlock = some b → B ≤ b) → Below B o w') → K (a.put o.dst v') w') : o.wp Try.prog a w K Q := by
  obtain ⟨i3, hi3, hz30, hz31, hz32⟩ := info_parts' intinfo
  have hnews : ∀ j u, [Value.int .i64 y][j]? = some u → w.cell? ((⟨g, 0, none⟩ : Addr).add j) = some u := by
    intro j u hj
    match j, hj with
    | 0, hj =>
      simp at hj
      subst hj
      rw [Addr.add_mid]
      exact hc
  have hgrown : ∀ v' w', w'.ownsRow w.heap.size 3 1 v' (xs.length + 1) (xs.map (Value.int .i64) ++ [.int .i64 y]) → Qu w' v' (xs ++ [y]) ∧ ∃ b, v'.ownBlock = some b ∧ w.heap.size ≤ b := by
    intro v' w' hown
    rcases hown.2 with ⟨_, h0⟩ | ⟨b, cap, cur, rfl, hg, hh, hn, hm, hcs, ht⟩
    · omega
    · refine ⟨.inr ⟨b, 0, cap, cur, by simp, hh, by omega, by simp; omega, fun j hj => ?_⟩, b, by simp [Value.ownBlock], hg⟩
      have hj2 : j < xs.length + 1 := by simpa using hj
      have h1 : (cur.toList.take ((xs.length + 1) * 1))[j]? = ((xs ++ [y]).map (Value.int .i64))[j]? := by rw [ht]; simp
      rw [List.getElem?_take, if_pos (by omega), List.getElem?_map, List.getElem?_eq_getElem hj] at h1
      rw [Nat.zero_add, List.getD_eq_getElem?_getD, List.getElem?_eq_getElem hj]
      simpa using h1
  rcases hq with ⟨rfl, rfl⟩ | ⟨b, off, cap, cur, rfl, hh, hsz, hcap, hcell⟩
  · refine wp_append_own w s x 24 ho w.heap.size 3 i3 (.int .i64 0) 1 8 Try.underlying24 hi3 hz30 hz31 hz32 rfl (by decide) _ 0 [] hs ⟨rfl, .inl ⟨rfl, rfl⟩⟩ ⟨g, 0, none⟩ 1 1 [.int .i64 y] hx rfl hnews (by simp [Value.oneCell']) (by unfold maxLen; omega) (by omega) (Nat.le_refl _) ?_
    intro v' w' hown hgr _
    obtain ⟨h1, b, h2, h3⟩ := hgrown v' w' hown
    exact h v' w' h1 (fun b hb _ => hgr.block b hb (by simp [Value.ownBlock])) hgr.size (.inr ⟨b, h2, h3⟩) (fun B o hB hl _ => hB.grown hgr hl (fun k hk => by simp [Value.ownBlock] at hk))
  · have hcl : ∀ j u, (xs.map (Value.int .i64))[j]? = some u → w.cell? ⟨b, off + j, none⟩ = some u := by
      intro j u hj
      rw [List.getElem?_map] at hj
      have hjl : j < xs.length := by
        rcases Nat.lt_or_ge j xs.length with h | h
        · exact h
        · rw [List.getElem?_eq_none h] at hj; cases hj
      refine blk_cell hh ?_
      rw [hcell j hjl, ← hj, List.getD_eq_getElem?_getD, List.getElem?_eq_getElem hjl]
      rfl
    unfold Oper.wp execOp
    by_cases hroom : xs.length + 1 ≤ cap
    · have hrun := run_append_room_cells (P := Try.prog) w 24 o.type 3 i3 Try.underlying24 hi3 b off xs.length cap ⟨g, 0, none⟩ 1 1 [.int .i64 y] (by rw [hz31]; rfl) hnews (by simp [Value.oneCell']) hroom
        (fun j hj => by
          have : j = 0 := by simpa using hj
          subst this
          rw [hz31, blk_cell hh (show cur[off + xs.length * 1 + 0]? = some cur[off + xs.length * 1 + 0] from Array.getElem?_eq_getElem (by omega))]
          rfl)
        (fun j hj => by simp [World.frozen?, hh])
      simp only [ho, resolve, invoke, builtin, Sem.run_bind, Sem.run_pure, Result.andThen_ok, List.map_toArray, List.map_cons, List.map_nil, hs, hx, hrun]
      refine h _ _ ?_ (fun b' hb' hne => ?_) ?_ (.inl rfl) (fun B o hB hl hk => by rw [hz31, setCells_one]; exact hB.setCell (p := ⟨b, off + xs.length * 1, none⟩) (hk b (by simp [Value.ownBlock])) _)
      · rw [hz31, Nat.mul_one, setCells_one]
        refine .inr ⟨b, off, cap, cur.setIfInBounds (off + xs.length) (.int .i64 y), by simp, blk_set hh, by simpa using hsz, by simp; omega, fun j hj => ?_⟩
        have hj2 : j < xs.length + 1 := by simpa using hj
        rcases Nat.lt_or_ge j xs.length with hlt | hge
        · rw [Array.getElem?_setIfInBounds_ne (by omega), hcell j hlt, List.getD_eq_getElem?_getD, List.getD_eq_getElem?_getD, List.getElem?_append_left hlt]
        · obtain rfl : j = xs.length := by omega
          rw [Array.getElem?_setIfInBounds_self_of_lt (by omega)]
          simp [List.getD_eq_getElem?_getD]
      · rw [hz31, setCells_one]
        exact Below.heap_setCell _ _ _ b' (by rintro rfl; exact hne (by simp [Value.ownBlock]))
      · rw [setCells_one]; simp
    · obtain ⟨v', w', hrun, r1, r2⟩ := run_append_arg_grows (P := Try.prog) w 24 o.type 3 i3 (.int .i64 0) 1 8 Try.underlying24 hi3 hz30 hz31 hz32 rfl (by decide) ⟨b, off, none⟩ xs.length cap (xs.map (Value.int .i64)) (by simp) (fun j u hj => by rw [Addr.add_mid]; exact hcl j u hj) ⟨g, 0, none⟩ 1 1 [.int .i64 y] rfl hnews (by omega) (by unfold maxLen; omega) (by omega)
      simp only [ho, resolve, invoke, builtin, Sem.run_bind, Sem.run_pure, Result.andThen_ok, List.map_toArray, List.map_cons, List.map_nil, hs, hx, hrun]
      obtain ⟨h1, b2, h2, h3⟩ := hgrown v' w' r1
      exact h v' w' h1 (fun b' hb' _ => r2.block b' hb' (by simp)) r2.size (.inr ⟨b2, h2, h3⟩) (fun B o hB hl _ => hB.grown r2 hl (fun k hk => by simp at hk))
end LW
end Go.Proofs.Ytghpfhoajcgghaa
