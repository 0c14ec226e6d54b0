/-
 Regions that draw their order: operations that yield their value while a condition on the world stands are taken first. Of two conditions the weak one is asked behind each other operation, the strong one as long as no late one has come up.
-/
import Derived.Deep.RegionHeld3
import Derived.Deep.DrawnRows
import Derived.WalkKit
set_option linter.unusedVariables false
set_option linter.unusedSimpArgs false
namespace Go.Proofs.Ytfbnakmmmphedaa
open Go
namespace RG
section
variable {P : Program} {ops : Array Oper} {Q : Exit → Act → World → Prop} {md : Region.Mode} {S T : World → Prop} {late : List Nat}
def noLate (late : List Nat) (listed : Array Bool) : Bool:=late.all fun l => !(listed.getD l false)
theorem noLate_set {i : Nat} {listed : Array Bool} (hi : late.contains i = false) : noLate late (listed.setIfInBounds i true) = noLate late listed:=by
 unfold noLate
 rw [Bool.eq_iff_iff,List.all_eq_true,List.all_eq_true]
 have hne : ∀ l ∈ late,i ≠ l:=fun l hl e => by subst e;simp [hl] at hi
 constructor
 ·intro h l hl;have:=h l hl;rw [getD_set_ne false (hne l hl)] at this;exact this
 ·intro h l hl;rw [getD_set_ne false (hne l hl)];exact h l hl
def wpL (P : Program) (md : Region.Mode) (ops : Array Oper) (Q : Exit → Act → World → Prop) (S T : World → Prop) (late : List Nat) : Nat → Array Bool → Act → World → Prop
 | 0,listed,a,w => Region.ready md ops listed = [] ∧ Q .normal a w
 | fuel + 1,listed,a,w =>
  (Region.ready md ops listed = [] → Q .normal a w) ∧
  ∀ i ∈ Region.ready md ops listed,wpOp P ops Q i (fun a' w' => (T w' ∧ (noLate late (listed.setIfInBounds i true) = true → S w')) ∧ wpL P md ops Q S T late fuel (listed.setIfInBounds i true) a' w') a w
theorem wpAny_of_L : ∀ (fuel : Nat) (listed : Array Bool) (a : Act) (w : World),wpL P md ops Q S T late fuel listed a w → wpAny P md ops Q fuel listed a w
 | 0,_,_,_,h => h
 | fuel + 1,_,_,_,h => ⟨h.1,fun i hi => wpOp_mono (fun a' w' h' => wpAny_of_L fuel _ a' w' h'.2) (h.2 i hi)⟩
def lateWait (md : Region.Mode) (ops : Array Oper) (late : List Nat) (i : Nat) : Bool :=
 late.all fun j => match ops[j]? with
  | some oj => oj.after.any fun e => Region.binds md e && e.on == i
  | none => true
theorem lateWait_spec {i : Nat} (h : lateWait md ops late i = true) (j : Nat) (oj : Oper) (hj : late.contains j = true) (ho : ops[j]? = some oj) : ∃ e ∈ oj.after,Region.binds md e = true ∧ e.on = i:=by
 have h1:=List.all_eq_true.1 h j (by simpa using hj)
 simp only [ho] at h1
 obtain ⟨e,he,hb⟩:=Array.any_eq_true'.1 h1
 simp only [Bool.and_eq_true,beq_iff_eq] at hb
 exact ⟨e,he,hb.1,hb.2⟩
def Leans (md : Region.Mode) (ops : Array Oper) (S T : World → Prop) (late : List Nat) (i : Nat) (w : World) : Prop:=T w ∧ (lateWait md ops late i = true → S w)
theorem wpL_first {i : Nat} {oi : Oper} {v : Value} (hi : ops[i]? = some oi) (hil : late.contains i = false) (hsel : ∀ (j : Nat) (o : Oper) cs b,ops[j]? = some o → o.op ≠ .select cs b)
  (hQ : ∀ c a w,Q (.panic c) (a.put oi.dst v) w → Q (.panic c) a w) :
  ∀ (fuel : Nat) (listed : Array Bool) (a : Act) (w : World),
   (∀ j oj,ops[j]? = some oj → j ≠ i → listed.getD j true = false → (∀ e ∈ oj.after,Region.binds md e = true → e.on ≠ i) → oi.apart ops oj = true) →
   i ∈ Region.ready md ops listed → YieldsIf P ops (Leans md ops S T late i) oi v a → T w → (noLate late listed = true → S w) → (lateWait md ops late i = true → noLate late listed = true) →
   wpL P md ops Q S T late fuel (listed.setIfInBounds i true) (a.put oi.dst v) w → wpL P md ops Q S T late (fuel + 1) listed a w:=by
 intro fuel
 induction fuel with
 | zero =>
  intro listed a w _ hr hy hT hS hn H
  refine ⟨fun h => (by rw [h] at hr;cases hr),fun j hj => ?_⟩
  by_cases hji : j = i
  ·subst hji;exact hy.wpOp hi ⟨hT,fun h => hS (hn h)⟩ ⟨⟨hT,fun h => hS (by rwa [noLate_set hil] at h)⟩,H⟩
  ·have:=ready_mono hj hji
   rw [H.1] at this;cases this
 | succ fuel ih =>
  intro listed a w hfree hr hy hT hS hn H
  refine ⟨fun h => (by rw [h] at hr;cases hr),fun j hj => ?_⟩
  by_cases hji : j = i
  ·subst hji;exact hy.wpOp hi ⟨hT,fun h => hS (hn h)⟩ ⟨⟨hT,fun h => hS (by rwa [noLate_set hil] at h)⟩,H⟩
  ·have h1:=H.2 j (ready_mono hj hji)
   obtain ⟨hjun,oj,hoj,hall⟩:=mem_ready.1 hj
   have hnot : ∀ e ∈ oj.after,Region.binds md e = true → e.on ≠ i:=fun e he hb heq => by
    have h1:=hall e he hb
    have h0:=(mem_ready.1 hr).1
    rw [heq] at h1;rcases Nat.lt_or_ge i listed.size with h' | h'
    ·simp [h'] at h0 h1;rw [h0] at h1;cases h1
    ·simp [Array.getElem?_eq_none h'] at h1
   have hn' : lateWait md ops late i = true → noLate late (listed.setIfInBounds j true) = true:=fun hl => by
    have hjl : late.contains j = false:=by
     cases hc : late.contains j with
     | false => rfl
     | true =>
      obtain ⟨e,he,hb,heq⟩:=lateWait_spec hl j oj hc hoj
      exact absurd heq (hnot e he hb)
    rw [noLate_set hjl];exact hn hl
   have h2:=wpOp_putIf hoj (hfree j oj hoj hji hjun hnot) (fun cs b => hsel i oi cs b hi) (fun cs b => hsel j oj cs b hoj) hQ hy h1
   have hfree' : ∀ k ok,ops[k]? = some ok → k ≠ i → (listed.setIfInBounds j true).getD k true = false →
     (∀ e ∈ ok.after,Region.binds md e = true → e.on ≠ i) → oi.apart ops ok = true:=fun k ok hk hki hun hno => by
    refine hfree k ok hk hki ?_ hno
    by_cases hjk : j = k
    ·subst hjk;exact hjun
    ·rw [getD_set_ne true hjk] at hun;exact hun
   have hcomm : (listed.setIfInBounds i true).setIfInBounds j true = (listed.setIfInBounds j true).setIfInBounds i true:=Array.setIfInBounds_comm _ _ (Ne.symm hji)
   refine wpOp_mono (fun a' w' h3 => ?_) h2
   obtain ⟨hyy,⟨hT',hS'⟩,hrest⟩:=h3
   rw [hcomm,noLate_set hil] at hS'
   rw [hcomm] at hrest;exact ⟨⟨hT',hS'⟩,ih (listed.setIfInBounds j true) a' w' hfree' (ready_mono hr (Ne.symm hji)) hyy hT' hS' hn' hrest⟩
def mayTake (md : Region.Mode) (ops : Array Oper) (late : List Nat) : List Nat → Array Bool → Bool
 | [],_ => true
 | i :: r,listed => Region.free md ops listed i && (Region.ready md ops listed).contains i && !(late.contains i) && (!(lateWait md ops late i) || noLate late listed) && mayTake md ops late r (listed.setIfInBounds i true)
def take : List Nat → Array Bool → Array Bool
 | [],listed => listed
 | i :: r,listed => take r (listed.setIfInBounds i true)
def RunsIf (P : Program) (md : Region.Mode) (ops : Array Oper) (S T : World → Prop) (late : List Nat) : List Nat → Act → Act → Prop
 | [],a,a' => a = a'
 | i :: r,a,a' => ∃ o v,ops[i]? = some o ∧ YieldsIf P ops (Leans md ops S T late i) o v a ∧ RunsIf P md ops S T late r (a.put o.dst v) a'
theorem RunsIf.weak {i : Nat} {r : List Nat} {a a' : Act} {o : Oper} {v : Value} (ho : ops[i]? = some o) (hw : Region.wanted o (yielded ops a.tmps) = true)
  (hr : ∀ w,T w → (execOp a.eval o).run P w = .ok (.value v) w) (h : RunsIf P md ops S T late r (a.put o.dst v) a') : RunsIf P md ops S T late (i :: r) a a':=⟨o,v,ho,.inl ⟨hw,fun w hw => hr w hw.1⟩,h⟩
theorem rW (v : Value) {i : Nat} {r : List Nat} {a a' : Act} {o : Oper} (hr : ∀ w,T w → (execOp a.eval o).run P w = .ok (.value v) w) (h : RunsIf P md ops S T late r (a.put o.dst v) a') (ho : ops[i]? = some o:=by rfl) (hw : Region.wanted o (yielded ops a.tmps) = true:=by rfl) : RunsIf P md ops S T late (i :: r) a a':=RunsIf.weak ho hw hr h
theorem RunsIf.strong {i : Nat} {r : List Nat} {a a' : Act} {o : Oper} {v : Value} (ho : ops[i]? = some o) (hl : lateWait md ops late i = true) (hw : Region.wanted o (yielded ops a.tmps) = true)
  (hr : ∀ w,T w → S w → (execOp a.eval o).run P w = .ok (.value v) w) (h : RunsIf P md ops S T late r (a.put o.dst v) a') : RunsIf P md ops S T late (i :: r) a a':=⟨o,v,ho,.inl ⟨hw,fun w hw => hr w hw.1 (hw.2 hl)⟩,h⟩
theorem RunsIf.skip {i : Nat} {r : List Nat} {a a' : Act} {o : Oper} (ho : ops[i]? = some o) (hw : Region.wanted o (yielded ops a.tmps) = false)
  (h : RunsIf P md ops S T late r (a.put o.dst undef) a') : RunsIf P md ops S T late (i :: r) a a':=⟨o,undef,ho,.inr ⟨hw,rfl⟩,h⟩
theorem RunsIf.nil {a : Act} : RunsIf P md ops S T late [] a a:=rfl
theorem wpL_take : ∀ (is : List Nat) {fuel : Nat} {listed : Array Bool} {a a' : Act} {w : World} (hs : Region.noSelect ops = true) (hm : mayTake md ops late is listed = true)
  (hQ : ∀ c a d v w,Q (.panic c) (Act.put a d v) w → Q (.panic c) a w) (hT : T w) (hS : noLate late listed = true → S w) (hr : RunsIf P md ops S T late is a a')
  (h : wpL P md ops Q S T late fuel (take is listed) a' w),wpL P md ops Q S T late (fuel + is.length) listed a w
 | [],_,_,_,_,_,_,_,_,_,_,hr,h => by cases hr;exact h
 | i :: r,fuel,listed,a,a',w,hs,hm,hQ,hT,hS,hr,h => by
  obtain ⟨o,v,ho,hy,hr'⟩:=hr
  simp only [mayTake,Bool.and_eq_true,Bool.not_eq_true',Bool.or_eq_true] at hm
  obtain ⟨⟨⟨⟨h1,h2⟩,h3⟩,h4⟩,h5⟩:=hm
  have:=wpL_take r (listed:=listed.setIfInBounds i true) hs h5 hQ hT (fun hn => hS (by rwa [noLate_set h3] at hn)) hr' h
  refine wpL_first ho h3 (Region.noSelect_spec hs) (fun c a w => hQ c a _ _ w) _ listed a w (Region.free_spec ho h1) (by simpa using h2) hy hT hS (fun hl => ?_) this
  rcases h4 with h4 | h4
  ·rw [hl] at h4;cases h4
  ·exact h4
theorem wpL_one {i : Nat} {o : Oper} {fuel : Nat} {listed : Array Bool} {a : Act} {w : World} (hr : Region.ready md ops listed = [i]) (ho : ops[i]? = some o) (hg : o.guard = none)
  (h : o.wp P a w (fun a' w' => (T w' ∧ (noLate late (listed.setIfInBounds i true) = true → S w')) ∧ wpL P md ops Q S T late fuel (listed.setIfInBounds i true) a' w') Q) : wpL P md ops Q S T late (fuel + 1) listed a w:=by
 refine ⟨fun h0 => (by rw [hr] at h0;cases h0),?_⟩
 rw [hr]
 intro j hj
 obtain rfl : j = i:=by simpa using hj
 unfold wpOp
 simp only [ho,Region.wanted,hg,if_true]
 exact .inl h
theorem wpL_step {i : Nat} {o : Oper} {fuel : Nat} {listed : Array Bool} {a : Act} {w : World} (hr : Region.ready md ops listed = [i]) (ho : ops[i]? = some o) (hg : o.guard = none)
  (h : ∀ K : Act → World → Prop,(∀ a' w',T w' → (noLate late (listed.setIfInBounds i true) = true → S w') → wpL P md ops Q S T late fuel (listed.setIfInBounds i true) a' w' → K a' w') → o.wp P a w K Q) : wpL P md ops Q S T late (fuel + 1) listed a w :=
 wpL_one hr ho hg (h _ fun _ _ hT hS hW => ⟨⟨hT,hS⟩,hW⟩)
theorem wpL_stepw {i : Nat} {o : Oper} {fuel : Nat} {listed : Array Bool} {a : Act} {w : World} (hr : Region.ready md ops listed = [i]) (ho : ops[i]? = some o) (hg : Region.wanted o (yielded ops a.tmps) = true)
  (h : ∀ K : Act → World → Prop,(∀ a' w',T w' → (noLate late (listed.setIfInBounds i true) = true → S w') → wpL P md ops Q S T late fuel (listed.setIfInBounds i true) a' w' → K a' w') → o.wp P a w K Q) : wpL P md ops Q S T late (fuel + 1) listed a w:=by
 refine ⟨fun h0 => (by rw [hr] at h0;cases h0),?_⟩
 rw [hr]
 intro j hj
 obtain rfl : j = i:=by simpa using hj
 unfold wpOp
 simp only [ho,hg,if_true]
 exact .inl (h _ fun _ _ hT hS hW => ⟨⟨hT,hS⟩,hW⟩)
theorem wpL_late {i : Nat} {o : Oper} {fuel : Nat} {listed : Array Bool} {a : Act} {w : World} (hr : Region.ready md ops listed = [i]) (ho : ops[i]? = some o) (hg : o.guard = none) (hl : noLate late (listed.setIfInBounds i true) = false)
  (h : ∀ K : Act → World → Prop,(∀ a' w',T w' → wpL P md ops Q S T late fuel (listed.setIfInBounds i true) a' w' → K a' w') → o.wp P a w K Q) : wpL P md ops Q S T late (fuel + 1) listed a w :=
 wpL_one hr ho hg (h _ fun _ _ hT hW => ⟨⟨hT,fun h => by rw [hl] at h;cases h⟩,hW⟩)
theorem wpL_done {listed : Array Bool} {a : Act} {w : World} (hr : Region.ready md ops listed = []) (h : Q .normal a w) : ∀ fuel,wpL P md ops Q S T late fuel listed a w
 | 0 => ⟨hr,h⟩
 | _ + 1 => ⟨fun _ => h,by rw [hr];simp⟩
theorem wpL_any {fuel : Nat} {listed : Array Bool} {a : Act} {w : World} (h : ∀ X : World,X = w → wpL P md ops Q S T late fuel listed a X) : wpL P md ops Q S T late fuel listed a w:=h w rfl
theorem wp_region_L (S T : World → Prop) (late : List Nat) {id : Nat} {a : Act} {w : World} (hm : P.follows .mixedOrders = true)
  (h : wpL P .any ops Q S T late ops.size (Array.replicate ops.size false) a w.drew) : (Code.region id ops true).wp P Q a w :=
 wp_region_any hm (wpAny_of_L _ _ _ _ h)
end
end RG
end Go.Proofs.Ytfbnakmmmphedaa
