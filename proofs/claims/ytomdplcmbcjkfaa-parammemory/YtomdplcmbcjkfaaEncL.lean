/-
  What a block of parameters is.
-/
import Derived.Test.YtomdplcmbcjkfaaDecU
import Derived.Test.YtomdplcmbcjkfaaLays
import Derived.Laws.CopyOwn
namespace Go.Proofs.Ytomdplcmbcjkfaa
open Go.RowKit
set_option linter.unusedVariables false
set_option linter.unusedSimpArgs false
namespace LW
open Words
theorem un_take (v : Int) (n m : Nat) : (un v (n + m)).take n = un v n := by
  induction n generalizing v with
  | zero => rfl
  | succ n ih => rw [show n + 1 + m = (n + m) + 1 by omega]; simp only [un, List.take_succ_cons]; rw [ih]
theorem ly_head (z : List Int) (j n m : Nat) (v : Int) (h : j ≤ z.length) : (ly z j (n + m) v).take (j + n) = z.take j ++ un v n := by
  have hj : (z.take j).length = j := by simp; omega
  unfold ly
  rw [List.take_append, hj, List.take_of_length_le (by omega), show j + n - j = n by omega, List.take_append, un_length, un_take, show n - (n + m) = 0 by omega, List.take_zero, List.append_nil]
theorem ly_tail (z : List Int) (j n r : Nat) (v : Int) (h : j ≤ z.length) : (ly z j n v).drop (j + n + r) = z.drop (j + n + r) := by
  have hj : (z.take j).length = j := by simp; omega
  unfold ly
  rw [List.drop_append, hj, List.drop_eq_nil_of_le (by omega), List.nil_append, show j + n + r - j = n + r by omega, List.drop_append, un_length, List.drop_eq_nil_of_le (by rw [un_length]; omega), List.nil_append, show n + r - n = r by omega, List.drop_drop]
theorem ly_over (z : List Int) (j n m : Nat) (v u : Int) (h : j + n + m ≤ z.length) : ly (ly z j (n + m) v) (j + n) m u = ly (ly z j n v) (j + n) m u := by
  have e1 := ly_head z j n m v (by omega)
  have e1' := ly_head z j n 0 v (by omega)
  have e2 := ly_tail z j (n + m) 0 v (by omega)
  have e2' := ly_tail z j n m v (by omega)
  rw [Nat.add_zero, ← Nat.add_assoc] at e2
  show (ly z j (n + m) v).take (j + n) ++ (un u m ++ (ly z j (n + m) v).drop (j + n + m)) = (ly z j n v).take (j + n) ++ (un u m ++ (ly z j n v).drop (j + n + m))
  rw [e1, show (ly z j n v).take (j + n) = z.take j ++ un v n from e1', e2', e2]
/-- The block behind so many fields, as the program lays them. -/
def enP (kd : Int) (p : Pm) : Nat → List Int
  | 0 => List.replicate (mo kd).toNat 0
  | k + 1 => ly (enP kd p k) (rAt kd ((k + 1 : Nat) : Int)).toNat (pSz kd ((k + 1 : Nat) : Int) (p.xof != 0)).toNat (p.nv ((k + 1 : Nat) : Int))
/-- As the document lays them. -/
def enR (kd : Int) (p : Pm) : Nat → List Int
  | 0 => List.replicate (mo kd).toNat 0
  | k + 1 => if k + 1 = 7 ∧ (p.xof == 0) = true then enR kd p k else ly (enR kd p k) (rAt kd ((k + 1 : Nat) : Int)).toNat (rSz kd ((k + 1 : Nat) : Int)).toNat (p.nv ((k + 1 : Nat) : Int))
theorem enP_length (kd : Int) (p : Pm) (hk : kd = 1 ∨ kd = 2) : ∀ k, k ≤ 9 → (enP kd p k).length = (mo kd).toNat
  | 0, _ => by simp [enP]
  | k + 1, h => by
    obtain ⟨_, _, _, hl, _⟩ := pFits kd ((k + 1 : Nat) : Int) (p.xof != 0) hk (by omega) (by omega)
    rw [enP, ly_length _ _ _ _ (by rw [enP_length kd p hk k (by omega)]; omega), enP_length kd p hk k (by omega)]
theorem enP_byt (kd : Int) (p : Pm) : ∀ k, Byt (enP kd p k)
  | 0 => fun z hz => by simp [enP] at hz; omega
  | k + 1 => Byt.ly (enP_byt kd p k) _ _ _
theorem enR_enP (kd : Int) (p : Pm) (hk : kd = 1 ∨ kd = 2) : enR kd p 9 = enP kd p 9 := by
  have h5 : enR kd p 5 = enP kd p 5 := by rcases hk with rfl | rfl <;> rfl
  have hl := enP_length kd p hk 5 (by omega)
  cases hx : p.xof == 0 with
  | true =>
    have hx' : (p.xof != 0) = false := by simp [bne, hx]
    have h6 : enR kd p 6 = enP kd p 6 := by
      show ly (enR kd p 5) _ _ _ = ly (enP kd p 5) _ _ _
      rw [h5, hx']
      rcases hk with rfl | rfl <;> rfl
    have h7 : enR kd p 7 = enP kd p 7 := by
      show (if 6 + 1 = 7 ∧ (p.xof == 0) = true then enR kd p 6 else _) = ly (enP kd p 6) _ _ _
      rw [if_pos ⟨rfl, hx⟩, h6, hx']
      rcases hk with rfl | rfl <;> exact (ly_zero _ _ _).symm
    have h8 : enR kd p 8 = enP kd p 8 := by
      show ly (enR kd p 7) _ _ _ = ly (enP kd p 7) _ _ _
      rw [h7]
      rcases hk with rfl | rfl <;> rfl
    show ly (enR kd p 8) _ _ _ = ly (enP kd p 8) _ _ _
    rw [h8]
    rcases hk with rfl | rfl <;> rfl
  | false =>
    have hx' : (p.xof != 0) = true := by simp [bne, hx]
    have h7 : enR kd p 7 = enP kd p 7 := by
      show (if 6 + 1 = 7 ∧ (p.xof == 0) = true then enR kd p 6 else ly (ly (enR kd p 5) _ _ _) _ _ _) = ly (ly (enP kd p 5) _ _ _) _ _ _
      rw [if_neg (by simp [hx]), h5, hx']
      rcases hk with rfl | rfl
      · exact ly_over (enP 1 p 5) 8 4 4 _ _ (by rw [hl]; decide)
      · exact ly_over (enP 2 p 5) 8 4 2 _ _ (by rw [hl]; decide)
    have h8 : enR kd p 8 = enP kd p 8 := by
      show ly (enR kd p 7) _ _ _ = ly (enP kd p 7) _ _ _
      rw [h7]
      rcases hk with rfl | rfl <;> rfl
    show ly (enR kd p 8) _ _ _ = ly (enP kd p 8) _ _ _
    rw [h8]
    rcases hk with rfl | rfl <;> rfl
/-- The whole block. -/
def enL (kd : Int) (p : Pm) (s t : List Int) : List Int := splice (splice (enP kd p 9) (2 * (mo kd / 4).toNat) s) (3 * (mo kd / 4).toNat) t
theorem splice_byt {l s : List Int} (j : Nat) (h : Byt l) (h' : Byt s) : Byt (splice l j s) := (h.take _).append (h'.append (h.drop _))
theorem vs_splice (l s : List Int) (j : Nat) : vs (splice l j s) = splice (vs l) j (vs s) := by simp [vs, splice]
theorem ck_salts {kd : Int} {p : Pm} {sl tl : Nat} (h : p.ck kd sl tl = 0) : sl ≤ (mo kd / 4).toNat ∧ tl ≤ (mo kd / 4).toNat := by
  unfold Pm.ck at h
  rcases ck_kind h with rfl | rfl
  · simp only [LW.ck, if_true] at h
    have := ckG_may h
    have e : (mo 1 / 4).toNat = 16 := rfl
    omega
  · simp only [LW.ck, if_true, show ((2 : Int) = 1) = False by simp, if_false] at h
    have := ckG_may h
    have e : (mo 2 / 4).toNat = 8 := rfl
    omega
theorem row_addr {w : World} {a : Option Addr} {zs : List Int} (h : Row w a zs) (h0 : 0 < zs.length) : ∃ ad, a = some ad ∧ ∀ j v, (vs zs)[j]? = some v → w.cell? (ad.add j) = some v := by
  obtain ⟨b, off, rfl⟩ := h.some_of h0
  exact ⟨_, rfl, row_cells h (Below.refl _ _)⟩
theorem wp_copy_splice {P : Program} {o : Oper} {a : Act} {w : World} {K : Act → World → Prop} {Q : Exit → Act → World → Prop} (hgd : o.guard = none) (d s : Operand) (dT sT : TypeId)
    (ho : o.op = .call { callee := .builtin .copy, args := #[d, s], argTypes := #[dT, sT] }) (elem : TypeId) (hu : P.underlying dT = some (.slice elem)) (hsz : (P.info? elem).map (·.size) = some 1)
    (dp sp : Option Addr) (dLen dCap sLen sCap : Nat) (hd : a.eval d = .slice dp dLen dCap) (hs : a.eval s = .slice sp sLen sCap)
    (g off : Nat) (cur : List Value) (t : TypeId) (hg : w.heap[g]? = some (.cells cur.toArray t (0, 0))) (cs : List Value) (hn : cs.length = Nat.min sLen dLen)
    (hpos : 0 < cs.length → dp = some ⟨g, off, none⟩ ∧ ∃ ad, sp = some ad ∧ ∀ j v, cs[j]? = some v → w.cell? (ad.add j) = some v)
    (hfit : off + cs.length ≤ cur.length) (h1 : ∀ v ∈ cs, v.oneCell' = true) (B : Nat) (w0 : World) (hb : RowKit.Below B w0 w) (hBg : B ≤ g)
    (h : ∀ w', RowKit.Hid (w'.heap[g]? = some (.cells (splice cur off cs).toArray t (0, 0))) → RowKit.Below B w0 w' → K (a.put o.dst (goInt cs.length)) w') : Oper.wp P o a w K Q := by
  have h' := step_copy_splice (ops := #[]) (E := True) (Q := Q) hgd d s dT sT ho elem hu hsz dp sp dLen dCap sLen sCap hd hs g off cur t hg cs hn hpos hfit h1 B w0 hb hBg h
  rw [if_pos (by simp [Region.wanted, hgd])] at h'
  exact h'
end LW
end Go.Proofs.Ytomdplcmbcjkfaa
