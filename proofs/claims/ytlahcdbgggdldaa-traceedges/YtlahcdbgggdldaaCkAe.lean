/-
  Ck1, Ck2, Ck3, Ck4 in one.
-/
import Derived.Test.YtlahcdbgggdldaaCpAe
import Derived.Test.YtlahcdbgggdldaaLkBe
namespace Go.Proofs.Ytlahcdbgggdldaa
open Go.RowKit
set_option linter.unusedVariables false
set_option linter.unusedSimpArgs false
namespace LW
open Mc
/-- Rows of numbers, wherever they lie. -/
def RR (W : World) (oa : Option Addr) (rows : List (List Int)) : Prop := rows = [] ∨ ∃ b off, oa = some ⟨b, off, none⟩ ∧ ∀ i, i < rows.length → ∃ a c, W.cell? ⟨b, off + i, none⟩ = some (.slice a (rows.getD i []).length c) ∧ NR W a (rows.getD i [])
theorem RR.below {W W' : World} {oa : Option Addr} {rows : List (List Int)} (h : RR W oa rows) (hb : Below W.heap.size W W') : RR W' oa rows := by
 rcases h with h | ⟨b, off, e, h⟩
 ·exact .inl h
 ·refine .inr ⟨b, off, e, fun i hi => ?_⟩
  obtain ⟨a, c, h1, h2⟩ := h i hi
  exact ⟨a, c, keepC hb h1, h2.below hb⟩
end LW
end Go.Proofs.Ytlahcdbgggdldaa
namespace Go.Proofs.Ytlahcdbgggdldaa
open Go Go.RowKit
set_option linter.unusedVariables false
set_option linter.unusedSimpArgs false
namespace LW
open Mc
/-- The clock of an event, as far as a band of runners goes. -/
def clL (s : Syst) (l : List Ev) (f m j : Nat) : List Int := (List.range m).map (fun p => (Tr.ck s l ((f + p : Nat) : Int) j : Int))
end LW
end Go.Proofs.Ytlahcdbgggdldaa
namespace Go.Proofs.Ytlahcdbgggdldaa
open Go Go.RowKit
set_option linter.unusedVariables false
set_option linter.unusedSimpArgs false
namespace LW
open Mc
theorem lnk_nat {f : Int} {n : Nat} {x : Eg2} (hf : f = -1 ∨ ∃ k : Nat, f = k) (h : x ∈ Tr.lnk f n) : ∃ i j : Nat, x = ((i : Int), (j : Int)) := by
 rw [Tr.lnk_mem] at h
 rcases hf with hf | ⟨k, hk⟩
 ·exact absurd hf h.1
 ·exact ⟨k, n, by rw [h.2, hk]⟩
theorem laF_nat (l : List Ev) (r : Int) : ∀ n, Tr.laF l n r = -1 ∨ ∃ k : Nat, Tr.laF l n r = k
 | 0 => .inl rfl
 | n + 1 => by
  rw [Tr.laF]
  split
  ·exact .inr ⟨n, rfl⟩
  ·split
   ·exact .inr ⟨n, rfl⟩
   ·exact laF_nat l r n
theorem shF_nat (l : List Ev) (r : Int) : ∀ n, Tr.shF l n r = -1 ∨ ∃ k : Nat, Tr.shF l n r = k
 | 0 => .inl rfl
 | n + 1 => by
  rw [Tr.shF]
  split
  ·exact .inr ⟨n, rfl⟩
  ·exact shF_nat l r n
theorem snI_nat (l : List Ev) (c : Int) : ∀ n, ∀ x ∈ Tr.snI l n c, ∃ k : Nat, x = (k : Int)
 | 0 => by simp [Tr.snI]
 | n + 1 => by
  rw [Tr.snI]
  split
  ·intro x hx
   rcases List.mem_append.1 hx with h | h
   ·exact snI_nat l c n x h
   ·exact ⟨n, List.mem_singleton.1 h⟩
  ·exact snI_nat l c n
theorem tkI_nat (l : List Ev) (c : Int) : ∀ n, ∀ x ∈ Tr.tkI l n c, ∃ k : Nat, x = (k : Int)
 | 0 => by simp [Tr.tkI]
 | n + 1 => by
  rw [Tr.tkI]
  split
  ·intro x hx
   rcases List.mem_append.1 hx with h | h
   ·exact tkI_nat l c n x h
   ·exact ⟨n, List.mem_singleton.1 h⟩
  ·exact tkI_nat l c n
theorem frI_nat (l : List Ev) (c : Int) : ∀ n, ∀ x ∈ Tr.frI l n c, ∃ k : Nat, x = (k : Int)
 | 0 => by simp [Tr.frI]
 | n + 1 => by
  rw [Tr.frI]
  split
  ·intro x hx
   rcases List.mem_append.1 hx with h | h
   ·exact frI_nat l c n x h
   ·exact ⟨n, List.mem_singleton.1 h⟩
  ·split
   ·simp
   ·exact frI_nat l c n
theorem get_nat {xs : List Int} (h : ∀ x ∈ xs, ∃ k : Nat, x = (k : Int)) (i : Nat) : ∃ k : Nat, xs.getD i 0 = (k : Int) := by
 rw [List.getD_eq_getElem?_getD]
 rcases hx : xs[i]? with _ | y
 ·exact ⟨0, rfl⟩
 ·exact h y (List.mem_of_getElem? hx)
theorem opE_nat {s : Syst} {l : List Ev} {n : Nat} {x : Eg2} (h : x ∈ Tr.opE s l n) : ∃ i j : Nat, x = ((i : Int), (j : Int)) := by
 unfold Tr.opE at h
 dsimp only at h
 split at h
 ·split at h
  ·exact lnk_nat (.inr (get_nat (tkI_nat l _ n) _)) h
  ·cases h
 ·split at h
  ·split at h
   ·exact lnk_nat (shF_nat l _ n) h
   ·exact lnk_nat (.inr (get_nat (snI_nat l _ n) _)) h
  ·split at h
   ·obtain ⟨f, h1, h2⟩ := List.mem_flatMap.1 h
    exact lnk_nat (.inr (frI_nat l _ n f h1)) h2
   ·cases h
theorem edF_nat (s : Syst) (l : List Ev) : ∀ n, ∀ x ∈ Tr.edF s l n, ∃ i j : Nat, x = ((i : Int), (j : Int))
 | 0 => by simp [Tr.edF]
 | n + 1 => by
  intro x hx
  rw [Tr.edF] at hx
  rcases List.mem_append.1 hx with h | h
  ·rcases List.mem_append.1 h with h | h
   ·exact edF_nat s l n x h
   ·exact lnk_nat (laF_nat l _ n) h
  ·exact opE_nat h
end LW
end Go.Proofs.Ytlahcdbgggdldaa
namespace Go.Proofs.Ytlahcdbgggdldaa
open Go Go.RowKit
set_option linter.unusedVariables false
set_option linter.unusedSimpArgs false
namespace LW
open Mc
/-- Names of the rows. -/
abbrev Oc := Option Bool ⊕ (Nat × Bool)
abbrev Oc.li : Oc := .inl none
abbrev Oc.ad : Oc := .inl (some false)
abbrev Oc.ah : Oc := .inl (some true)
abbrev Oc.cl (j : Nat) : Oc := .inr (j, false)
abbrev Oc.ag (c : Nat) : Oc := .inr (c, true)
def vpc (v : Oc → Value) (i : Oc) (x : Value) : Oc → Value := fun j => if j = i then x else v j
theorem vpc_same (v : Oc → Value) (i : Oc) (x : Value) : vpc v i x i = x := by simp [vpc]
theorem vpc_other (v : Oc → Value) (i j : Oc) (x : Value) (h : j ≠ i) : vpc v i x j = v j := by simp [vpc, h]
/-- The rows. -/
def fc (G n : Nat) (cl ag : Nat → List Int) (hs : List Value) (v : Oc → Value) : Oc → Rw
 | .inl none => ⟨23, 1, v Oc.li, n, rwI n (fun j => v (Oc.cl j))⟩
 | .inl (some false) => ⟨23, 1, v Oc.ad, G, rwI G (fun c => v (Oc.ag c))⟩
 | .inl (some true) => ⟨23, 1, v Oc.ah, hs.length, hs⟩
 | .inr (j, false) => ⟨3, 1, v (Oc.cl j), (cl j).length, (cl j).map (Value.int .i64)⟩
 | .inr (c, true) => ⟨3, 1, v (Oc.ag c), (ag c).length, (ag c).map (Value.int .i64)⟩
theorem fc_val (G n : Nat) (cl ag : Nat → List Int) (hs : List Value) (v : Oc → Value) (i : Oc) : (fc G n cl ag hs v i).val = v i := by rcases i with (_ | _ | _) | ⟨c, _ | _⟩ <;> rfl
/-- In memory: o the world that it began in. -/
structure CM (o W : World) (G n : Nat) (cl ag : Nat → List Int) (hs : List Value) (v : Oc → Value) : Prop where
 bl : Below o.heap.size o W
 fam : Fam W o.heap.size (fc G n cl ag hs v)
section
variable {o W W1 : World} {G n : Nat} {cl ag : Nat → List Int} {hs : List Value} {v : Oc → Value}
theorem CM.below {W' : World} (h : CM o W G n cl ag hs v) (hb : Below W.heap.size W W') : CM o W' G n cl ag hs v := ⟨h.bl.trans (hb.mono h.bl.size), h.fam.below hb⟩
theorem CM.clIs (h : CM o W G n cl ag hs v) (j : Nat) : ∃ a c, v (Oc.cl j) = .slice a (cl j).length c ∧ NR W a (cl j) := by
 have ho : W.ownsRow o.heap.size 3 1 (v (Oc.cl j)) (cl j).length ((cl j).map (Value.int .i64)) := h.fam.own (Oc.cl j)
 obtain ⟨a, c, e, h1⟩ := own_read1 0 ho rfl
 refine ⟨a, c, e, ?_⟩
 rcases h1 with h1 | ⟨b, hb, h1⟩
 ·exact .inl h1
 ·exact .inr ⟨b, 0, hb, fun i hi => by rw [Nat.zero_add]; exact h1 i hi⟩
theorem CM.agIs (h : CM o W G n cl ag hs v) (j : Nat) : ∃ a c, v (Oc.ag j) = .slice a (ag j).length c ∧ NR W a (ag j) := by
 have ho : W.ownsRow o.heap.size 3 1 (v (Oc.ag j)) (ag j).length ((ag j).map (Value.int .i64)) := h.fam.own (Oc.ag j)
 obtain ⟨a, c, e, h1⟩ := own_read1 0 ho rfl
 refine ⟨a, c, e, ?_⟩
 rcases h1 with h1 | ⟨b, hb, h1⟩
 ·exact .inl h1
 ·exact .inr ⟨b, 0, hb, fun i hi => by rw [Nat.zero_add]; exact h1 i hi⟩
/-- A number of a clock is set. -/
theorem CM.setCl (h : CM o W G n cl ag hs v) (j p : Nat) (x : Int) {b cap : Nat} (hv : v (Oc.cl j) = .slice (some ⟨b, 0, none⟩) (cl j).length cap) : CM o (W.setCell ⟨b, p, none⟩ (.int .i64 x)) G n (put cl j ((cl j).set p x)) ag hs v := by
 have hob : (fc G n cl ag hs v (Oc.cl j)).val.ownBlock = some b := by rw [fc_val, hv]; rfl
 have hB : o.heap.size ≤ b := own_blkI (h.fam.own (Oc.cl j)) b hob
 refine ⟨h.bl.setCell (p := ⟨b, p, none⟩) hB _, (h.fam.set (Oc.cl j) (by rw [fc_val]; exact hv) rfl p (.int .i64 x)).congr (fun i => ?_)⟩
 unfold upd
 rcases i with (_ | _ | _) | ⟨c, _ | _⟩
 ·simp [fc]
 ·simp [fc]
 ·simp [fc]
 ·by_cases e : c = j
  ·subst e
   rw [if_pos rfl]
   show Rw.mk _ _ _ (put cl c ((cl c).set p x) c).length ((put cl c ((cl c).set p x) c).map _) = Rw.mk _ _ _ (cl c).length (((cl c).map (Value.int .i64)).set p _)
   rw [put_same, List.length_set, List.map_set]
   rfl
  ·rw [if_neg (by intro e2; cases e2; exact e rfl)]
   show Rw.mk _ _ _ (put cl j ((cl j).set p x) c).length ((put cl j ((cl j).set p x) c).map _) = _
   rw [put_other _ _ _ _ e]
   rfl
 ·simp [fc]
/-- What was added to a group is another row. -/
theorem CM.setAg (h : CM o W G n cl ag hs v) (hb : Below W.heap.size W W1) (c : Nat) (hc : c < G) (r : List Int) (u : Value) (ho : W1.ownsRow W.heap.size 3 1 u r.length (r.map (Value.int .i64))) {b cap : Nat} (hv : v Oc.ad = .slice (some ⟨b, 0, none⟩) G cap) : CM o (W1.setCell ⟨b, c, none⟩ u) G n cl (put ag c r) hs (vpc v (Oc.ag c) u) := by
 have ho' : W1.ownsRow o.heap.size 3 1 u r.length (r.map (Value.int .i64)) := own_baseL ho h.bl.size
 have hF := h.fam.fresh (W' := W1) (Oc.ag c) ⟨3, 1, u, r.length, r.map (Value.int .i64)⟩ hb (show World.ownsRow _ _ _ _ _ _ _ from ho') (fun b e => own_blkI ho b e)
 have hob : (fc G n cl ag hs v Oc.ad).val.ownBlock = some b := by rw [fc_val, hv]; rfl
 have hB : o.heap.size ≤ b := own_blkI (h.fam.own Oc.ad) b hob
 have hx : upd (fc G n cl ag hs v) (Oc.ag c) ⟨3, 1, u, r.length, r.map (Value.int .i64)⟩ Oc.ad = fc G n cl ag hs v Oc.ad := upd_other _ _ _ _ (by intro e; cases e)
 refine ⟨(h.bl.trans (hb.mono h.bl.size)).setCell (p := ⟨b, c, none⟩) hB _, (hF.set Oc.ad (by rw [hx, fc_val]; exact hv) (by rw [hx]; rfl) c u).congr (fun i => ?_)⟩
 rw [hx]
 unfold upd
 rcases i with (_ | _ | _) | ⟨k, _ | _⟩
 ·simp [fc, vpc]
 ·rw [if_pos rfl]
  show Rw.mk _ _ (vpc v (Oc.ag c) u Oc.ad) _ (rwI G (fun k => vpc v (Oc.ag c) u (Oc.ag k))) = Rw.mk _ _ _ _ ((rwI G (fun k => v (Oc.ag k))).set c u)
  rw [rwI_set G (fun k => v (Oc.ag k)) (fun k => vpc v (Oc.ag c) u (Oc.ag k)) c u (vpc_same _ _ _) (fun j hj => vpc_other _ _ _ _ (by intro e; cases e; exact hj rfl))]
  rw [vpc_other _ _ _ _ (by intro e; cases e)]
  rfl
 ·simp [fc, vpc]
 ·simp [fc, vpc]
 ·rw [if_neg (by intro e; cases e)]
  by_cases e : k = c
  ·subst e
   rw [if_pos rfl]
   show Rw.mk _ _ (vpc v (Oc.ag k) u (Oc.ag k)) (put ag k r k).length ((put ag k r k).map _) = _
   rw [put_same, vpc_same]
  ·rw [if_neg (by intro e2; cases e2; exact e rfl)]
   show Rw.mk _ _ (vpc v (Oc.ag c) u (Oc.ag k)) (put ag c r k).length ((put ag c r k).map _) = _
   rw [put_other _ _ _ _ e, vpc_other _ _ _ _ (by intro e2; cases e2; exact e rfl)]
   rfl
end
end LW
end Go.Proofs.Ytlahcdbgggdldaa
