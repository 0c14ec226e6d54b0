/-
 Accesses and what is told of them lie apart.
-/
import Derived.Test.YtdjanbojhblijaaGreatRc5g
namespace Go.Proofs.YtdjanbojhblijaaGreat
open Go.RowKit
set_option linter.unusedVariables false
set_option linter.unusedSimpArgs false
namespace LW
open Mc
theorem own_two_types {W : World} {B B' k k' n n' b : Nat} {t t' : TypeId} {v v' : Value} {xs xs' : List Value} (h : W.ownsRow B t k v n xs) (h' : W.ownsRow B' t' k' v' n' xs') (ht : t ≠ t') (e : v.ownBlock = some b) (e' : v'.ownBlock = some b) : False := by
 rcases h.2 with ⟨e1, _⟩ | ⟨g, cap, cur, e1, _, hh, _⟩
 ·rw [e1] at e; cases e
 ·rw [e1] at e
  have hg : g = b := by injection e
  subst hg
  exact own_neB h' hh (fun h => ht h.symm) e'
/-- What the accesses' rows are made of is no race. -/
theorem fA_ty (C M : Nat) (top : Bool → Value) (mid : Bool → Nat → Value) (iv inn : Bool → Nat → Nat → Value) (cs : Bool → Nat → Nat → List Int) (i : Bool × Option (Nat × Option Nat)) : (fA C M top mid iv inn cs i).ty ≠ 33 ∧ (fA C M top mid iv inn cs i).ty ≠ 89 ∧ (fA C M top mid iv inn cs i).ty ≠ 35 := by
 obtain ⟨s, i⟩ := i
 rcases i with _ | ⟨c, _ | p⟩ <;> (dsimp only [fA]; decide)
/-- The list of races grows. -/
theorem AM.grownR {W W1 : World} {B B2 C M n : Nat} {top : Bool → Value} {mid : Bool → Nat → Value} {iv inn : Bool → Nat → Nat → Value} {cs : Bool → Nat → Nat → List Int} {v : Value} {xs : List Value} (h : AM W B C M top mid iv inn cs) (ho : W.ownsRow B2 33 2 v n xs) (hg : W.grownBy W1 v.ownBlock) : AM W1 B C M top mid iv inn cs := by
 refine ⟨h.fam.keep (fun i b hb => ?_)⟩
 exact hg.block b (own_lt (h.fam.own i) b hb) (fun e => own_two_types (h.fam.own i) ho (fA_ty C M top mid iv inn cs i).1 hb e.symm)
/-- A row of races stays where no block of its type is touched. -/
theorem own_raceK {W W1 : World} {B n : Nat} {v : Value} {xs : List Value} (h : W.ownsRow B 33 2 v n xs) (hk : ∀ (q : Nat) (cs' : Array Value) (t : TypeId) (fr : Nat × Nat), W.heap[q]? = some (.cells cs' t fr) → 3 ≠ t → 23 ≠ t → W1.heap[q]? = some (.cells cs' t fr)) : W1.ownsRow B 33 2 v n xs := by
 refine own_keepK h (fun b hb => ?_)
 rcases h.2 with ⟨e1, _⟩ | ⟨g, cap, cur, e1, _, hh, _⟩
 ·rw [e1] at hb; cases hb
 ·rw [e1] at hb
  have hg : g = b := by injection hb
  subst hg
  rw [hh]
  exact hk g _ _ _ hh (by decide) (by decide)
theorem own_keepR {W W1 : World} {B n k p : Nat} {t t' : TypeId} {v : Value} {xs : List Value} {cs : Array Value} {fr : Nat × Nat} (hp : W.heap[p]? = some (.cells cs t' fr)) (ho : W.ownsRow B t k v n xs) (hne : t ≠ t') (hg : W.grownBy W1 v.ownBlock) : W1.heap[p]? = some (.cells cs t' fr) := by
 rw [hg.block p (blk_lt hp) (fun e => own_neB ho hp hne e.symm)]
 exact hp
theorem who_base9 {s : Syst} {l : List Ev} {k : Nat} (hg : Tr.Gd s l l.length) (hk : k < l.length) : ∃ wn : Nat, (Tr.ev l k).who = (wn : Int) ∧ wn ≤ 512 ∧ wn < Tr.rnC l := by
 have hfit := hg k hk
 have h0 := hfit.w0
 have h1 := hfit.w1
 have h2 := Tr.rnC_le k (Nat.le_of_lt hk) (fun j hj => hg j (by omega))
 have h3 := Tr.rnC_mono l (Nat.le_of_lt hk) (Nat.le_refl _)
 rw [List.take_length] at h3
 refine ⟨(Tr.ev l k).who.toNat, ?_, ?_, ?_⟩
 ·have : 0 ≤ (Tr.ev l k).who := h0
  omega
 ·have : (Tr.ev l k).who < Tr.rnC (l.take k) := h1
  omega
 ·have : (Tr.ev l k).who < Tr.rnC (l.take k) := h1
  omega
theorem anM_zero (l : List Ev) (f M : Nat) : anM l f M 0 = fun _ _ _ => [] := by
 funext s c p
 unfold anM
 split
 ·rfl
 ·rfl
/-- The clocks, as rows. -/
theorem CM.lis {o W : World} {G n : Nat} {cl ag : Nat → List Int} {hs : List Value} {v : Oc → Value} (h : CM o W G n cl ag hs v) : ∃ a c, v Oc.li = .slice a n c ∧ RR W a ((List.range n).map cl) := by
 have ho : W.ownsRow o.heap.size 23 1 (v Oc.li) n (rwI n (fun j => v (Oc.cl j))) := h.fam.own Oc.li
 obtain ⟨a, c, e⟩ := own_openE ho
 refine ⟨a, c, e, ?_⟩
 by_cases h0 : n = 0
 ·subst h0
  exact .inl rfl
 ·obtain ⟨b, cap, e2, _⟩ := h.liAt 0 (by omega)
  rw [e] at e2
  injection e2 with e21 _ _
  refine .inr ⟨b, 0, e21, fun i hi => ?_⟩
  rw [List.length_map, List.length_range] at hi
  obtain ⟨b', cap', e3, y⟩ := h.liAt i hi
  rw [e, e21] at e3
  injection e3 with e31 _ _
  injection e31 with e31
  injection e31 with e31
  subst e31
  obtain ⟨a4, c4, e4, h4⟩ := h.clIs i
  have e5 : ((List.range n).map cl).getD i [] = cl i := by
   rw [List.getD_eq_getElem?_getD, List.getElem?_map, List.getElem?_range hi]
   rfl
  rw [e5, Nat.zero_add]
  exact ⟨a4, c4, by rw [y, e4], h4⟩
/-- A row is put behind a row, whatever its length. -/
theorem wp_append_rows {P : Program} {w : World} {o : Oper} {a : Act} {K : Act → World → Prop} {Q : Exit → Act → World → Prop} (s x : Operand) (t : TypeId)
  (ho : o.op = .call { callee := .builtin .append, args := #[s, x], argTypes := #[t, t] })
  (base base2 : Nat) (e : TypeId) (i : TypeInfo) (z : Value) (size bytes : Nat) (ht : P.underlying t = some (.slice e)) (hi : P.info? e = some i) (hz : i.zero = some z)
  (hsize : i.size = size) (hby : i.bytes = bytes) (hzs : z.cells.size = size) (hsz : 0 < size)
  (v v2 : Value) (n n2 : Nat) (xs xs2 : List Value) (hs : a.eval s = v) (hown : w.ownsRow base e size v n xs) (hx : a.eval x = v2) (hown2 : w.ownsRow base2 e size v2 n2 xs2) (h1 : ∀ u ∈ xs2, u.oneCell' = true)
  (h63 : n + n2 ≤ maxLen) (hbytes : (n + n2) * bytes ≤ 140737488355328) (hbase : base ≤ w.heap.size)
  (h : ∀ v' w', w'.ownsRow base e size v' (n + n2) (xs ++ xs2) → w.grownBy w' v.ownBlock → K (a.put o.dst v') w') : o.wp P a w K Q := by
 rcases hown2.2 with ⟨rfl, h0⟩ | ⟨g, cap, cur, rfl, _⟩
 ·subst h0
  have hn : xs2 = [] := List.eq_nil_of_length_eq_zero (by have := hown2.1; omega)
  subst hn
  have hrun := run_append_owned_none (P := P) (w := w) base t o.type e i size ht hi v n xs hown
  have hk := h v w (by rw [List.append_nil, Nat.add_zero]; exact hown) ⟨rfl, rfl, rfl, Nat.le_refl _, fun _ _ _ => rfl⟩
  unfold Oper.wp
  simp [execOp, ho, resolve, invoke, builtin, hs, hx, hrun, Result.andThen]
  exact hk
 ·exact wp_append_at s x t ho base e i z size bytes ht hi hz hsize hby hzs hsz v n xs hs hown ⟨g, 0, none⟩ n2 cap xs2 hx (hown2.1) (fun j u hj => hown2.cells (g := g) rfl j u hj) h1 h63 hbytes hbase (fun v' w' q1 q2 _ => h v' w' q1 q2)
theorem edC_one (a : List Eg2) : ∀ u ∈ edC a, u.oneCell' = true := by
 intro u hu
 unfold edC at hu
 obtain ⟨x, _, hx⟩ := List.mem_flatMap.1 hu
 simp at hx
 rcases hx with rfl | rfl <;> rfl
/-- The first of a row. -/
theorem own_pre {W : World} {B k n m cap : Nat} {t : TypeId} {a : Option Addr} {xs : List Value} (h : W.ownsRow B t k (.slice a n cap) n xs) (hm : m ≤ n) : W.ownsRow B t k (.slice a m cap) m (xs.take (m * k)) := by
 have hlen := h.1
 have hmk : m * k ≤ n * k := Nat.mul_le_mul_right k hm
 refine ⟨by rw [List.length_take, hlen]; exact Nat.min_eq_left hmk, ?_⟩
 rcases h.2 with ⟨e, h0⟩ | ⟨g, c2, cur, e, q1, q2, q3, q4, q5, q6⟩
 ·left
  have hm0 : m = 0 := by omega
  injection e with e1 e2 e3
  subst e1 e3 hm0
  exact ⟨rfl, rfl⟩
 ·right
  injection e with e1 e2 e3
  subst e1 e3
  refine ⟨g, cap, cur, rfl, q1, q2, Nat.le_trans hm q3, q4, q5, ?_⟩
  rw [← q6, List.take_take, Nat.min_eq_left hmk]
theorem edC_take (es : List (Int × Int)) (m : Nat) : (edC es).take (m * 2) = edC (es.take m) := by
 induction es generalizing m with
 | nil => simp [edC]
 | cons x es ih =>
  cases m with
  | zero => simp [edC]
  | succ m =>
   have e : (m + 1) * 2 = m * 2 + 1 + 1 := by omega
   have e2 : edC (x :: es) = .int .i64 x.1 :: .int .i64 x.2 :: edC es := rfl
   have e3 : edC (x :: es.take m) = .int .i64 x.1 :: .int .i64 x.2 :: edC (es.take m) := rfl
   rw [e, e2, List.take_succ_cons, List.take_succ_cons, ih, List.take_succ_cons, e3]
end LW
end Go.Proofs.YtdjanbojhblijaaGreat
