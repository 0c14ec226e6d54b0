/-
  What the laws' calls wide and kept give: bytes with marked ones behind them, and whether they are as they were.
-/
import Derived.Test.YthbakhgfnfdahabSpoilU
import Derived.Test.YthbakhgfnfdahabSame
import Derived.Laws.AppendOwnNone
namespace Go.Proofs.Ythbakhgfnfdahab
open Go.RowKit Go.ChangeShapes
set_option linter.unusedVariables false
set_option linter.unusedSimpArgs false
namespace LW
open Words
theorem row_at {w : World} {a : Option Addr} {zs : List Int} (h : LW.Row w a zs) (hz : 0 < zs.length) : ∃ b off, a = some ⟨b, off, none⟩ ∧ ∀ (j : Nat) (u : Value), (LW.vs zs)[j]? = some u → w.cell? ((⟨b, off, none⟩ : Addr).add j) = some u := by
  rcases h with rfl | ⟨b, off, rfl, hc⟩
  · simp at hz
  · refine ⟨b, off, rfl, fun j u hj => ?_⟩
    have hlt : j < zs.length := by rw [← LW.vs_length zs]; exact (List.getElem?_eq_some_iff.1 hj).1
    have e : (⟨b, off, none⟩ : Addr).add j = ⟨b, off + j, none⟩ := by unfold Addr.add; split <;> simp_all
    rw [e, hc j hlt]
    rw [LW.vs_get zs j hlt] at hj
    exact hj
/-- 'append(v, b...)' where the call itself has made v, and it is empty. -/
theorem wpList_copy_own {w : World} {base : Nat} {ops : Array Oper} {rest : List Oper} {o : Oper} {a : Act} {Q : Exit → Act → World → Prop} (hgd : o.guard = none) (s x : Operand)
    (ho : o.op = .call { callee := .builtin .append, args := #[s, x], argTypes := #[22, 22] }) (v : Value) (b : Option Addr) (cap : Nat) (zs ys : List Int) (n len : Nat) (hlen : zs.length = len) (hs : a.eval s = v) (hown : w.ownsRow base 5 1 v n (LW.vs ys)) (hx : a.eval x = .slice b len cap)
    (hr : LW.Row w b zs) (hn : b = none → cap = 0) (hm : n + len ≤ 140737488355328) (hbase : base ≤ w.heap.size)
    (h : ∀ x' w', w'.ownsRow base 5 1 x' (n + len) (LW.vs (ys ++ zs)) → Below base w w' → wpList Try.prog ops Q rest (a.put o.dst x') w') : wpList Try.prog ops Q (o :: rest) a w := by
  obtain ⟨i0, hi, hz0, hz1, hz2⟩ := info_parts LW.info5
  subst hlen
  cases b with
  | none =>
    obtain rfl := hn rfl
    obtain rfl : zs = [] := by rcases hr with h | ⟨b, off, h, _⟩ <;> first | exact h | cases h
    refine wpList_append_own_none hgd s x 22 ho base 5 i0 1 Try.underlying22 hi _ n (LW.vs ys) hs hown hx (h _ _ ?_ (Below.refl _ _))
    rw [List.append_nil]; exact hown
  | some ad =>
    have hnews : ∀ (j : Nat) (u : Value), (LW.vs zs)[j]? = some u → w.cell? (ad.add j) = some u := by
      intro j u hj
      have hlt : j < zs.length := by rw [← LW.vs_length zs]; exact (List.getElem?_eq_some_iff.1 hj).1
      obtain ⟨b', off', he, hc⟩ := row_at hr (by omega)
      cases he
      exact hc j u hj
    refine wpList_append_own _ hgd s x 22 ho base 5 i0 (.int .u8 0) 1 1 Try.underlying22 hi hz0 hz1 hz2 rfl (by decide) v n (LW.vs ys) hs hown ad zs.length cap (LW.vs zs) hx (by rw [Nat.mul_one]; exact LW.vs_length zs) hnews (oneCell_vs zs) (by unfold maxLen; omega) (by omega) hbase ?_
    intro v' w2 hown' hgrow' _
    refine h _ _ ?_ ((Below.refl _ _).grown hgrow' hbase (LW.own_block hown))
    rw [LW.vs_append]; exact hown'
/-- The bytes that mark the room behind. -/
def markL (k : Nat) : List Int := (List.range k).map fun i => 200 + ((i % 7 : Nat) : Int)
theorem markL_succ (k : Nat) : markL (k + 1) = markL k ++ [200 + ((k % 7 : Nat) : Int)] := by
  unfold markL; rw [List.range_succ, List.map_append]; rfl
theorem markL_length (k : Nat) : (markL k).length = k := by simp [markL]
theorem markL_Byt (k : Nat) : Byt (markL k) := fun x hx => by
  simp only [markL, List.mem_map] at hx
  obtain ⟨i, _, rfl⟩ := hx
  omega
def wideL (zs : List Int) : List Int := zs ++ markL 70
theorem wideL_length (zs : List Int) : (wideL zs).length = zs.length + 70 := by simp [wideL, markL_length]
theorem wideL_Byt {zs : List Int} (h : Byt zs) : Byt (wideL zs) := Byt.append h (markL_Byt 70)
end LW
end Go.Proofs.Ythbakhgfnfdahab
