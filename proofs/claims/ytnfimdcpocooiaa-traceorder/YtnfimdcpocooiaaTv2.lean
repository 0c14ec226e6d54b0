/-
  Who holds what, in a map.
-/
import Derived.Test.YtnfimdcpocooiaaTv1
import Derived.Test.YtnfimdcpocooiaaErT
namespace Go.Proofs.Ytnfimdcpocooiaa
open Go.RowKit
set_option linter.unusedVariables false
set_option linter.unusedSimpArgs false
namespace LW
open Mc
theorem zeroI (w : World) : (zeroValue 3).run Try.prog w = .ok (.int .i64 0) w := by kernel_rfl
theorem wfI {x : Int} (h : i64 x) : (Lit.int .i64 x).wf = true := WalkArith.wf_i64 h
/-- A map that tells who holds what. -/
def MpI (W : World) (bm : Nat) (p : List Ev) : Prop := ∃ (n : Nat) (D : DataW Unit), n ≤ p.length ∧ W.ownsMap Try.prog 3 (plainElem Try.prog 3) bm n D ∧ ∀ k, i64 k → (Maps.has D (.int .i64 k) = (Tr.hdC p k).isSome) ∧ ∀ x, Tr.hdC p k = some x → ∀ z, D.atKey (.int .i64 k) z = .lit (.int .i64 x)
theorem MpI.lt {w : World} {bm : Nat} {p : List Ev} (h : MpI w bm p) : bm < w.heap.size := by
  obtain ⟨n, D, _, h1, _⟩ := h
  exact h1.lt
theorem MpI.keep {w w' : World} {bm : Nat} {p : List Ev} (h : MpI w bm p) (hk : w'.heap[bm]? = w.heap[bm]?) : MpI w' bm p := by
  obtain ⟨n, D, h0, ⟨es, clock, hb, r⟩, h2⟩ := h
  exact ⟨n, D, h0, ⟨es, clock, by rw [hk]; exact hb, r⟩, h2⟩
theorem MpI.below {w w' : World} {bm : Nat} {p : List Ev} (h : MpI w bm p) (hb : Below w.heap.size w w') : MpI w' bm p := h.keep (hb.block _ h.lt)
theorem MpI.ne {w : World} {bm b : Nat} {p : List Ev} {cs : Array Value} {t : TypeId} {fr : Nat × Nat} (h : MpI w bm p) (hb : w.heap[b]? = some (.cells cs t fr)) : bm ≠ b := by
  obtain ⟨n, D, _, ⟨es, clock, h1, _⟩, _⟩ := h
  rintro rfl
  rw [h1] at hb
  cases hb
theorem MpI.made (w : World) : MpI (w.alloc (.map #[] 0)) w.heap.size [] := by
  refine ⟨0, .map [], Nat.le_refl _, World.ownsMap_made _ _ _ _, fun k _ => ⟨rfl, fun x hx => ?_⟩⟩
  cases hx
theorem key_ne {k k' : Int} (h : k' ≠ k) : (Lit.int .i64 k') ≠ .int .i64 k := fun e => h (by injection e)
theorem isKeyI {k : Int} (h : i64 k) : WideAt.IsKeyLit (.int .i64 k) := by
  first | exact trivial | simp [WideAt.IsKeyLit, wfI h] | exact wfI h
set_option maxRecDepth 100000 in
set_option maxHeartbeats 4000000 in
theorem pany (bm : Nat) (p : List Ev) (k : Int) (w : World) (h : MpI w bm p) (hk : i64 k) :
    Calls Try.prog 55 #[.map (some bm), .int .i64 k] w fun e w' => e = .returned (.bool (Tr.hdC p k).isSome) ∧ Below w.heap.size w w' := by
  obtain ⟨n, D, _, hown, hD⟩ := h
  have hh := (hD k hk).1
  have HO := TW.hide hown
  have HK' := TW.hide (Maps.keyOf_int_mk Try.underlying3 (wfI hk))
  rw [← hh]
  clear hD hh hown
  go_enter Try.func55, Try.ntmps55
  go_wp2_with (first | (at_lookup; refine wpList_lookup_own_ok_int _ rfl _ _ 78 rfl 3 3 .i64 (Maps.int_keyed Try.underlying3) Try.underlying78 Try.underlying3 (zeroI _) bm n D rfl HO.out _ _ rfl HK'.out ?_; intro c hat hwc) | fail)
  go_ret
  exact ⟨rfl, Below.refl _ _⟩
set_option maxRecDepth 100000 in
set_option maxHeartbeats 4000000 in
theorem phtake (bm : Nat) (p : List Ev) (who op a va : Int) (sh : Bool) (w : World) (h : MpI w bm p) (hw : i64 who) (ha : i64 a) (hl : p.length < 9223372036854775807) :
    Calls Try.prog 56 #[.map (some bm), .agg #[.int .i64 who, .int .i64 op, .int .i64 a, .int .i64 va, .bool sh]] w fun e w' => e = .returned (.tuple #[]) ∧ MpI w' bm (p ++ [⟨who, op, a, va, sh⟩]) ∧ w.grownBy w' (some bm) := by
  have hg : w.grownBy (w.alloc (.cells #[.int .i64 who, .int .i64 op, .int .i64 a, .int .i64 va, .bool sh] 57)) (some bm) := (World.grownBy_alloc w _ _)
  have HM := TW.hide (h.below ((Below.refl w.heap.size w).alloc (Nat.le_refl _) (.cells #[.int .i64 who, .int .i64 op, .int .i64 a, .int .i64 va, .bool sh] 57)))
  have hA : Below w.heap.size w (w.alloc (.cells #[.int .i64 who, .int .i64 op, .int .i64 a, .int .i64 va, .bool sh] 57)) := (Below.refl _ _).alloc (Nat.le_refl _) _
  have N1 : Hid ((w.alloc (.cells #[.int .i64 who, .int .i64 op, .int .i64 a, .int .i64 va, .bool sh] 57)).heap[w.heap.size]? = some (.cells #[.int .i64 who, .int .i64 op, .int .i64 a, .int .i64 va, .bool sh] 57 (0, 0))) := heap_alloc_new w _
  have NB := TW.hide hA
  clear hA
  go_enter Try.func56, Try.ntmps56
  refine wp_seq_k fun K hK => ?_
  have HK := TW.hide hK
  clear hK
  go_wp2
  refine HK.out _ _ ?_
  clear HK K
  generalize w.alloc _ = X at *
  obtain ⟨z0, z1, z2, z3, z4⟩ := cellsY5 N1.out
  obtain ⟨n, D, hn, hown, hD⟩ := HM.out
  have HKa := TW.hide (Maps.keyOf_int_mk Try.underlying3 (wfI ha))
  by_cases h8 : op = 8
  · have k8 : (op == 8) = true := by simp [h8]
    have HF : Hid (∀ w', w'.ownsMap Try.prog 3 (plainElem Try.prog 3) bm (n + 1) (D.put (.int .i64 a) (.lit (.int .i64 who))) → X.grownBy w' (some bm) → MpI w' bm (p ++ [⟨who, op, a, va, sh⟩]) ∧ w.grownBy w' (some bm)) := fun w' h1 h2 => by
      refine ⟨⟨n + 1, _, by simp; omega, h1, fun k hk => ?_⟩, hg.trans h2⟩
      rw [Tr.hdC_snoc]
      unfold Tr.hdS
      by_cases e : k = a
      · subst e
        rw [if_pos ⟨h8, rfl⟩]
        refine ⟨Maps.has_put_same hown.isMap (isKeyI hk) _, fun x hx z => ?_⟩
        cases hx
        exact Maps.atKey_put_same hown.isMap (isKeyI hk) _ _
      · rw [if_neg (fun h => e h.2.symm), if_neg (fun h => e h.2.symm)]
        rw [Maps.has_put_other (key_ne e)]
        refine ⟨(hD k hk).1, fun x hx z => ?_⟩
        rw [Maps.atKey_put_other (key_ne e)]
        exact (hD k hk).2 x hx z
    have HO := TW.hide hown
    have hm : n < maxLen := by unfold maxLen; omega
    clear h8 hg hown hD hn hl HM h
    go_wp2_with (first | (at_mapUpdate; refine wpList_mapUpdate_own _ rfl _ _ _ 78 rfl 3 3 (Maps.int_keyed Try.underlying3) Try.underlying78 _ bm n D rfl HO.out hm _ _ (.int .i64 a) rfl rfl HKa.out _ [] (plainElem_int Try.underlying3 (wfI hw)) ?_; intro w1 hown1 hgrow1) | fail)
    go_end0
    exact ⟨rfl, HF.out _ hown1 hgrow1⟩
  have k8 : (op == 8) = false := by simp [h8]
  by_cases h9 : op = 9
  · have k9 : (op == 9) = true := by simp [h9]
    have HF : Hid (∀ w', w'.ownsMap Try.prog 3 (plainElem Try.prog 3) bm n (D.del (.int .i64 a)) → X.mapTurned w' bm → MpI w' bm (p ++ [⟨who, op, a, va, sh⟩]) ∧ w.grownBy w' (some bm)) := fun w' h1 h2 => by
      refine ⟨⟨n, _, by simp; omega, h1, fun k hk => ?_⟩, hg.trans h2.grown⟩
      rw [Tr.hdC_snoc]
      unfold Tr.hdS
      by_cases e : k = a
      · subst e
        rw [if_neg (fun h => h8 h.1), if_pos ⟨h9, rfl⟩]
        exact ⟨Maps.has_del_same, fun x hx => by cases hx⟩
      · rw [if_neg (fun h => e h.2.symm), if_neg (fun h => e h.2.symm)]
        rw [Maps.has_del_other (key_ne e)]
        refine ⟨(hD k hk).1, fun x hx z => ?_⟩
        rw [Maps.atKey_del_other (key_ne e)]
        exact (hD k hk).2 x hx z
    have HO := TW.hide hown
    clear h8 h9 hg hown hD hn hl HM h
    go_wp2_with (first | (at_delete; refine wpList_delete_own _ rfl _ _ 78 3 rfl 3 (Maps.int_keyed Try.underlying3) Try.underlying78 _ bm n D rfl HO.out _ _ rfl HKa.out ?_; intro w1 hown1 hturn1) | fail)
    go_end0
    exact ⟨rfl, HF.out _ hown1 hturn1⟩
  have k9 : (op == 9) = false := by simp [h9]
  have HF : Hid (MpI X bm (p ++ [⟨who, op, a, va, sh⟩]) ∧ w.grownBy X (some bm)) := by
    refine ⟨⟨n, D, by simp; omega, hown, fun k hk => ?_⟩, hg⟩
    rw [Tr.hdC_snoc]
    unfold Tr.hdS
    rw [if_neg (fun h => h8 h.1), if_neg (fun h => h9 h.1)]
    exact hD k hk
  clear h8 h9 hg hown hD hn hl HM h
  go_wp2
  go_end0
  exact ⟨rfl, HF.out⟩
end LW
end Go.Proofs.Ytnfimdcpocooiaa
