/-
 Rows of one's own, structs in rows, queues: what is kept and what is changed.
-/
import Derived.Test.YtdjanbojhblijaaGreatSyAg
import Derived.Maps.AppendAt
import Derived.ArgAppend
namespace Go.Proofs.YtdjanbojhblijaaGreat
open Go.RowKit
set_option linter.unusedVariables false
set_option linter.unusedSimpArgs false
namespace LW
open Mc
theorem intinfo : (Tryz.prog.info? 3).map (fun i => (i.zero, i.size, i.bytes)) = some (some (.int .i64 0), 1, 8) := by kernel_rfl
theorem info_parts' {P : Program} {ty : TypeId} {z : Value} {n m : Nat} (h : (P.info? ty).map (fun i => (i.zero, i.size, i.bytes)) = some (some z, n, m)) : ∃ i, P.info? ty = some i ∧ i.zero = some z ∧ i.size = n ∧ i.bytes = m := by
 cases hi : P.info? ty with
 | none => rw [hi] at h; cases h
 | some i =>
  rw [hi] at h
  simp at h
  exact ⟨i, rfl, h.1, h.2.1, h.2.2⟩
theorem own_blkI {w : World} {B n s : Nat} {t : TypeId} {v : Value} {xs : List Value} (h : w.ownsRow B t s v n xs) : ∀ k, v.ownBlock = some k → B ≤ k := by
 intro k hk
 rcases h.2 with ⟨rfl, _⟩ | ⟨g, cap, cur, rfl, hg, _⟩
 ·simp [Value.ownBlock] at hk
 ·simp [Value.ownBlock] at hk; omega
theorem own_belowI {w w' : World} {B n s : Nat} {t : TypeId} {v : Value} {xs : List Value} (h : w.ownsRow B t s v n xs) (hb : Below w.heap.size w w') : w'.ownsRow B t s v n xs := by
 rcases h.2 with ⟨rfl, h0⟩ | ⟨g, cap, cur, rfl, hg, hh, hn, hm, hc, ht⟩
 ·exact ⟨h.1, .inl ⟨rfl, h0⟩⟩
 ·exact ⟨h.1, .inr ⟨g, cap, cur, rfl, hg, blk_keep hh hb, hn, hm, hc, ht⟩⟩
theorem own_read1 {w : World} {B n : Nat} {t : TypeId} {v : Value} {α : Type} {f : α → Value} {l : List α} (d : α) (h : w.ownsRow B t 1 v n (l.map f)) (hn : l.length = n) : ∃ a c, v = .slice a n c ∧ (l = [] ∨ ∃ b, a = some ⟨b, 0, none⟩ ∧ ∀ k, k < l.length → w.cell? ⟨b, k, none⟩ = some (f (l.getD k d))) := by
 rcases h.2 with ⟨rfl, h0⟩ | ⟨g, cap, cur, rfl, hg, hh, hn', hm, hc, ht⟩
 ·exact ⟨none, 0, by rw [h0], .inl (List.length_eq_zero_iff.1 (by omega))⟩
 ·refine ⟨_, cap, rfl, .inr ⟨g, rfl, fun k hk => blk_cell hh ?_⟩⟩
  have h1 : (cur.toList.take (n * 1))[k]? = (l.map f)[k]? := by rw [ht]
  rw [List.getElem?_take, if_pos (by omega), List.getElem?_map, List.getElem?_eq_getElem hk] at h1
  rw [List.getD_eq_getElem?_getD, List.getElem?_eq_getElem hk]
  simpa using h1
theorem own_setN {w : World} {B n s p o : Nat} {t t' : TypeId} {fr : Nat × Nat} {v u : Value} {xs : List Value} {cs : Array Value} (h : w.ownsRow B t s v n xs) (hp : w.heap[p]? = some (.cells cs t' fr)) (ht : t ≠ t') : (w.setCell ⟨p, o, none⟩ u).ownsRow B t s v n xs := by
 rcases h.2 with ⟨rfl, h0⟩ | ⟨g, cap, cur, rfl, hg, hh, hn, hm, hc, htk⟩
 ·exact ⟨h.1, .inl ⟨rfl, h0⟩⟩
 ·refine ⟨h.1, .inr ⟨g, cap, cur, rfl, hg, ?_, hn, hm, hc, htk⟩⟩
  rw [Below.heap_setCell _ _ _ g ?_]
  ·exact hh
  ·rintro rfl
   have := hh.symm.trans hp
   simp at this
   exact ht this.2.1
/-- Another row of the same kind, in another block. -/
theorem own_setB {w : World} {B n s p o : Nat} {t : TypeId} {v u : Value} {xs : List Value} (h : w.ownsRow B t s v n xs) (hp : v.ownBlock ≠ some p) : (w.setCell ⟨p, o, none⟩ u).ownsRow B t s v n xs := by
 rcases h.2 with ⟨rfl, h0⟩ | ⟨g, cap, cur, rfl, hg, hh, hn, hm, hc, htk⟩
 ·exact ⟨h.1, .inl ⟨rfl, h0⟩⟩
 ·refine ⟨h.1, .inr ⟨g, cap, cur, rfl, hg, ?_, hn, hm, hc, htk⟩⟩
  rw [Below.heap_setCell _ _ _ g ?_]
  ·exact hh
  ·rintro rfl
   exact hp (by simp [Value.ownBlock])
theorem own_at {w : World} {B n s : Nat} {t : TypeId} {v : Value} {xs : List Value} (h : w.ownsRow B t s v n xs) (hn : 0 < n) : ∃ b cap cur, v = .slice (some ⟨b, 0, none⟩) n cap ∧ B ≤ b ∧ w.heap[b]? = some (.cells cur t (0, 0)) := by
 rcases h.2 with ⟨_, h0⟩ | ⟨g, cap, cur, rfl, hg, hh, _⟩
 ·omega
 ·exact ⟨g, cap, cur, rfl, hg, hh⟩
theorem blk_setN {w : World} {g p o : Nat} {t t' : TypeId} {fr fr' : Nat × Nat} {u : Value} {cs cs' : Array Value} (h : w.heap[g]? = some (.cells cs t fr)) (hp : w.heap[p]? = some (.cells cs' t' fr')) (ht : t ≠ t') : (w.setCell ⟨p, o, none⟩ u).heap[g]? = some (.cells cs t fr) := by
 rw [Below.heap_setCell _ _ _ g ?_]
 ·exact h
 ·rintro rfl
  have := h.symm.trans hp
  simp at this
  exact ht this.2.1
theorem row_is {w : World} {B n s b cap : Nat} {t : TypeId} {v : Value} {xs : List Value} (h : w.ownsRow B t s v n xs) (he : v = .slice (some ⟨b, 0, none⟩) n cap) (hn : 0 < n) : B ≤ b ∧ ∃ cur, w.heap[b]? = some (.cells cur t (0, 0)) := by
 obtain ⟨b', cap', cur, e, hB, hh⟩ := own_at h hn
 rw [he] at e
 injection e with e1 e2 e3
 injection e1 with e1
 injection e1 with e1
 subst e1
 exact ⟨hB, cur, hh⟩
theorem own_grownT {w w' : World} {row : Option Nat} {B n s : Nat} {t : TypeId} {v : Value} {xs : List Value} (h : w.ownsRow B t s v n xs) (hg : w.grownBy w' row) (hne : ∀ k, v.ownBlock = some k → row ≠ some k) : w'.ownsRow B t s v n xs := by
 rcases h.2 with ⟨rfl, h0⟩ | ⟨g, cap, cur, rfl, hg', hh, hn, hm, hc, ht⟩
 ·exact ⟨h.1, .inl ⟨rfl, h0⟩⟩
 ·exact ⟨h.1, .inr ⟨g, cap, cur, rfl, hg', by rw [hg.block g (blk_lt hh) (Ne.symm (hne g (by simp [Value.ownBlock])))]; exact hh, hn, hm, hc, ht⟩⟩
theorem own_neB {w : World} {B n s g : Nat} {t t' : TypeId} {fr : Nat × Nat} {v : Value} {xs : List Value} {cs : Array Value} (h : w.ownsRow B t s v n xs) (hg : w.heap[g]? = some (.cells cs t' fr)) (ht : t ≠ t') : v.ownBlock ≠ some g := by
 intro hk
 rcases h.2 with ⟨rfl, _⟩ | ⟨g', cap, cur, rfl, _, hh, _⟩
 ·simp [Value.ownBlock] at hk
 ·simp [Value.ownBlock] at hk
  subst hk
  have := hh.symm.trans hg
  simp at this
  exact ht this.2.1
theorem own_lt {w : World} {B n s : Nat} {t : TypeId} {v : Value} {xs : List Value} (h : w.ownsRow B t s v n xs) : ∀ b, v.ownBlock = some b → b < w.heap.size := by
 intro b hb
 rcases h.2 with ⟨rfl, _⟩ | ⟨g, cap, cur, rfl, _, hh, _⟩
 ·simp [Value.ownBlock] at hb
 ·simp [Value.ownBlock] at hb
  subst hb
  exact blk_lt hh
theorem own_keepK {w w' : World} {B n s : Nat} {t : TypeId} {v : Value} {xs : List Value} (h : w.ownsRow B t s v n xs) (hk : ∀ b, v.ownBlock = some b → w'.heap[b]? = w.heap[b]?) : w'.ownsRow B t s v n xs := by
 rcases h.2 with ⟨rfl, h0⟩ | ⟨g, cap, cur, rfl, hg, hh, hn, hm, hc, ht⟩
 ·exact ⟨h.1, .inl ⟨rfl, h0⟩⟩
 ·exact ⟨h.1, .inr ⟨g, cap, cur, rfl, hg, by rw [hk g (by simp [Value.ownBlock])]; exact hh, hn, hm, hc, ht⟩⟩
theorem own_rd {w : World} {B n s : Nat} {t : TypeId} {v : Value} {xs : List Value} (h : w.ownsRow B t s v n xs) (hn : 0 < n) : ∃ b cap, v = .slice (some ⟨b, 0, none⟩) n cap ∧ B ≤ b ∧ (∃ cur, w.heap[b]? = some (.cells cur t (0, 0))) ∧ (∀ i, w.frozen? ⟨b, i, none⟩ = false) ∧ ∀ i u, xs[i]? = some u → w.cell? ⟨b, i, none⟩ = some u := by
 rcases h.2 with ⟨_, h0⟩ | ⟨g, cap, cur, rfl, hg, hh, hn', hm, hc, ht⟩
 ·omega
 ·refine ⟨g, cap, rfl, hg, ⟨cur, hh⟩, fun i => by simp [World.frozen?, hh], fun i u hu => ?_⟩
  rw [← ht, List.getElem?_take] at hu
  split at hu
  ·exact blk_cell hh (by simpa using hu)
  ·cases hu
theorem cell_of {w w' : World} {b i : Nat} (h : w'.heap[b]? = w.heap[b]?) : w'.cell? ⟨b, i, none⟩ = w.cell? ⟨b, i, none⟩ := by
 simp only [World.cell?, h]
theorem own_rdA {w : World} {B n n' s b cap : Nat} {t : TypeId} {v : Value} {xs : List Value} (h : w.ownsRow B t s v n xs) (e : v = .slice (some ⟨b, 0, none⟩) n' cap) (hn : 0 < n) : ∀ i u, xs[i]? = some u → w.cell? ⟨b, i, none⟩ = some u := by
 obtain ⟨b', cap', e', _, _, _, hr⟩ := own_rd h hn
 rw [e] at e'
 injection e' with e1
 injection e1 with e1
 injection e1 with e1
 subst e1
 exact hr
theorem own_base {w : World} {B B' n s : Nat} {t : TypeId} {v : Value} {xs : List Value} (h : w.ownsRow B t s v n xs) (hB : B' ≤ B) : w.ownsRow B' t s v n xs := by
 refine ⟨h.1, ?_⟩
 rcases h.2 with h1 | ⟨g, cap, cur, e, hg, h2⟩
 ·exact .inl h1
 ·exact .inr ⟨g, cap, cur, e, Nat.le_trans hB hg, h2⟩
/-- Structs of n cells each, one behind the other. -/
def flC {α : Type} (n : Nat) (f : α → Nat → Value) : List α → List Value
 | [] => []
 | x :: l => (List.range n).map (f x) ++ flC n f l
theorem flC_get {α : Type} (n : Nat) (f : α → Nat → Value) (d : α) : ∀ (l : List α) k j, k < l.length → j < n → (flC n f l)[k * n + j]? = some (f (l.getD k d) j)
 | [], k, j, h, _ => by simp at h
 | x :: l, 0, j, h, hj => by
  rw [flC, Nat.zero_mul, Nat.zero_add, List.getElem?_append_left (by simpa using hj), List.getElem?_map, List.getElem?_range hj]
  rfl
 | x :: l, k + 1, j, h, hj => by
  have hl : ((List.range n).map (f x)).length = n := by simp
  rw [flC, List.getElem?_append_right (by rw [hl, Nat.succ_mul]; omega), hl, show (k + 1) * n + j - n = k * n + j by rw [Nat.succ_mul]; omega]
  rw [flC_get n f d l k j (by simpa using h) hj]
  rfl
def evV (e : Ev) (j : Nat) : Value := if j = 0 then .int .i64 e.who else if j = 1 then .int .i64 e.op else if j = 2 then .int .i64 e.a else if j = 3 then .int .i64 e.value else .bool e.shut
def evC (l : List Ev) : List Value := flC 5 evV l
/-- A queue as it lies: in a block of numbers, at an offset, with room behind it. -/
def Qu (W : World) (v : Value) (xs : List Int) : Prop := (v = .slice none 0 0 ∧ xs = []) ∨ ∃ b off cap cur, v = .slice (some ⟨b, off, none⟩) xs.length cap ∧ W.heap[b]? = some (.cells cur 3 (0, 0)) ∧ off + cap ≤ cur.size ∧ xs.length ≤ cap ∧ ∀ j, j < xs.length → cur[off + j]? = some (.int .i64 (xs.getD j 0))
theorem Qu.keep {w w' : World} {v : Value} {xs : List Int} (h : Qu w v xs) (hk : ∀ b, v.ownBlock = some b → w'.heap[b]? = w.heap[b]?) : Qu w' v xs := by
 rcases h with h | ⟨b, off, cap, cur, rfl, hh, hs, hl, hc⟩
 ·exact .inl h
 ·exact .inr ⟨b, off, cap, cur, rfl, by rw [hk b (by simp [Value.ownBlock])]; exact hh, hs, hl, hc⟩
theorem Qu.below {w w' : World} {v : Value} {xs : List Int} (h : Qu w v xs) (hb : Below w.heap.size w w') : Qu w' v xs := by
 rcases h with h | ⟨b, off, cap, cur, rfl, hh, hs, hl, hc⟩
 ·exact .inl h
 ·exact .inr ⟨b, off, cap, cur, rfl, blk_keep hh hb, hs, hl, hc⟩
theorem Qu.cell {w : World} {v : Value} {xs : List Int} (h : Qu w v xs) (hp : 0 < xs.length) : ∃ b off cap, v = .slice (some ⟨b, off, none⟩) xs.length cap ∧ xs.length ≤ cap ∧ w.cell? ⟨b, off, none⟩ = some (.int .i64 (xs.getD 0 0)) := by
 rcases h with ⟨_, rfl⟩ | ⟨b, off, cap, cur, rfl, hh, hs, hl, hc⟩
 ·simp at hp
 ·refine ⟨b, off, cap, rfl, hl, blk_cell hh ?_⟩
  have := hc 0 hp
  rwa [Nat.add_zero] at this
/-- One less ahead. -/
theorem Qu.tail {w : World} {b off n cap : Nat} {xs : List Int} (h : Qu w (.slice (some ⟨b, off, none⟩) n cap) xs) (hp : 0 < xs.length) : Qu w (.slice (if cap = 1 then some ⟨b, off, none⟩ else some ⟨b, off + 1, none⟩) (n - 1) (cap - 1)) xs.tail := by
 rcases h with ⟨h, _⟩ | ⟨b', off', cap', cur, e, hh, hs, hl, hc⟩
 ·cases h
 ·injection e with e1 e2 e3
  injection e1 with e1
  injection e1 with e1 e4
  subst e1 e2 e3 e4
  have hlt : xs.tail.length = xs.length - 1 := List.length_tail
  by_cases hc1 : cap = 1
  ·rw [if_pos hc1]
   refine .inr ⟨b, off, cap - 1, cur, by rw [hlt], hh, by omega, by omega, fun j hj => by omega⟩
  ·rw [if_neg hc1]
   refine .inr ⟨b, off + 1, cap - 1, cur, by rw [hlt], hh, by omega, by omega, fun j hj => ?_⟩
   have := hc (j + 1) (by omega)
   rw [tail_getD, Nat.add_assoc, Nat.add_comm 1 j]
   exact this
theorem Qu.setB {w : World} {p o : Nat} {v u : Value} {xs : List Int} (h : Qu w v xs) (hp : v.ownBlock ≠ some p) : Qu (w.setCell ⟨p, o, none⟩ u) v xs :=
 h.keep (fun b hb => Below.heap_setCell _ _ _ b (by rintro rfl; exact hp hb))
theorem Qu.neT {w : World} {B n s : Nat} {t' : TypeId} {v v' : Value} {xs : List Int} {xs' : List Value} (h : Qu w v xs) (h' : w.ownsRow B t' s v' n xs') (ht : 3 ≠ t') : ∀ k, v.ownBlock = some k → v'.ownBlock ≠ some k := by
 intro k hk
 rcases h with ⟨rfl, _⟩ | ⟨b, off, cap, cur, rfl, hh, _⟩
 ·simp [Value.ownBlock] at hk
 ·simp [Value.ownBlock] at hk
  subst hk
  exact own_neB h' hh (Ne.symm ht)
theorem Qu.lt {w : World} {v : Value} {xs : List Int} (h : Qu w v xs) : ∀ b, v.ownBlock = some b → b < w.heap.size := by
 intro b hb
 rcases h with ⟨rfl, _⟩ | ⟨b', off, cap, cur, rfl, hh, _⟩
 ·simp [Value.ownBlock] at hb
 ·simp [Value.ownBlock] at hb
  subst hb
  exact blk_lt hh
end LW
end Go.Proofs.YtdjanbojhblijaaGreat
