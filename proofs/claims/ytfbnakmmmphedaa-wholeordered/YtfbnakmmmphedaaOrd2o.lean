/-
 Regions that draw their order: operations that all late ones wait for, be it through others.
-/
import Derived.Test.YtfbnakmmmphedaaOrdero
set_option linter.unusedVariables false
set_option linter.unusedSimpArgs false
namespace Go.Proofs.Ytfbnakmmmphedaa
open Go
namespace RG
section
variable {P : Program} {ops : Array Oper} {Q : Exit → Act → World → Prop} {md : Region.Mode} {S T : World → Prop} {late : List Nat}
def waitC (md : Region.Mode) (ops : Array Oper) (C : List Nat) (i : Nat) : Bool :=
 C.all fun c => match ops[c]? with
  | some oc => oc.after.any fun e => Region.binds md e && (e.on == i || C.contains e.on)
  | none => true
def clo (md : Region.Mode) (ops : Array Oper) (i : Nat) : List Nat :=
 (List.range ops.size).foldl (fun C j => match ops[j]? with
  | some oj => if oj.after.any (fun e => Region.binds md e && (e.on == i || C.contains e.on)) then j :: C else C
  | none => C) []
theorem waitC_spec {C : List Nat} {i : Nat} (h : waitC md ops C i = true) (c : Nat) (oc : Oper) (hc : c ∈ C) (ho : ops[c]? = some oc) : ∃ e ∈ oc.after,Region.binds md e = true ∧ (e.on = i ∨ e.on ∈ C):=by
 have h1:=List.all_eq_true.1 h c hc
 simp only [ho] at h1
 obtain ⟨e,he,hb⟩:=Array.any_eq_true'.1 h1
 simp only [Bool.and_eq_true,Bool.or_eq_true,beq_iff_eq,List.contains_iff_mem] at hb
 exact ⟨e,he,hb.1,hb.2⟩
theorem wpL_firstS {i : Nat} {oi : Oper} {v : Value} (C : List Nat) (hi : ops[i]? = some oi) (hil : late.contains i = false) (hsel : ∀ (j : Nat) (o : Oper) cs b,ops[j]? = some o → o.op ≠ .select cs b)
  (hQ : ∀ c a w,Q (.panic c) (a.put oi.dst v) w → Q (.panic c) a w) (hlc : ∀ l ∈ late,l ∈ C) (hC : waitC md ops C i = true) :
  ∀ (fuel : Nat) (listed : Array Bool) (a : Act) (w : World),
   (∀ j oj,ops[j]? = some oj → j ≠ i → listed.getD j true = false → (∀ e ∈ oj.after,Region.binds md e = true → e.on ≠ i) → oi.apart ops oj = true) →
   i ∈ Region.ready md ops listed → (∀ c ∈ C,listed.getD c false = false) → YieldsIf P ops (fun w => T w ∧ S w) oi v a → T w → S w → noLate late listed = true →
   wpL P md ops Q S T late fuel (listed.setIfInBounds i true) (a.put oi.dst v) w → wpL P md ops Q S T late (fuel + 1) listed a w:=by
 intro fuel
 induction fuel with
 | zero =>
  intro listed a w _ hr _ hy hT hS hn H
  refine ⟨fun h => (by rw [h] at hr;cases hr),fun j hj => ?_⟩
  by_cases hji : j = i
  ·subst hji;exact hy.wpOp hi ⟨hT,hS⟩ ⟨⟨hT,fun _ => hS⟩,H⟩
  ·have:=ready_mono hj hji
   rw [H.1] at this;cases this
 | succ fuel ih =>
  intro listed a w hfree hr hun hy hT hS hn H
  refine ⟨fun h => (by rw [h] at hr;cases hr),fun j hj => ?_⟩
  by_cases hji : j = i
  ·subst hji;exact hy.wpOp hi ⟨hT,hS⟩ ⟨⟨hT,fun _ => hS⟩,H⟩
  ·have h1:=H.2 j (ready_mono hj hji)
   obtain ⟨hjun,oj,hoj,hall⟩:=mem_ready.1 hj
   have hno : ∀ e ∈ oj.after,Region.binds md e = true → e.on ≠ i:=fun e he hb heq => by
    have h1:=hall e he hb
    have h0:=(mem_ready.1 hr).1
    rw [heq] at h1;rcases Nat.lt_or_ge i listed.size with h' | h'
    ·simp [h'] at h0 h1;rw [h0] at h1;cases h1
    ·simp [Array.getElem?_eq_none h'] at h1
   have hjC : j ∉ C:=fun hc => by
    obtain ⟨e,he,hb,heq | hm⟩:=waitC_spec hC j oj hc hoj
    ·exact hno e he hb heq
    ·have h2:=hall e he hb
     have h3:=hun _ hm
     rcases Nat.lt_or_ge e.on listed.size with h' | h'
     ·simp [h'] at h2 h3;rw [h3] at h2;cases h2
     ·simp [Array.getElem?_eq_none h'] at h2
   have hun' : ∀ c ∈ C,(listed.setIfInBounds j true).getD c false = false:=fun c hc => by
    rw [getD_set_ne false (fun e => hjC (by rw [e];exact hc))]
    exact hun c hc
   have hjl : late.contains j = false:=by
    cases hc : late.contains j with
    | false => rfl
    | true => exact absurd (hlc j (by simpa using hc)) hjC
   have hn' : noLate late (listed.setIfInBounds j true) = true:=by rw [noLate_set hjl];exact hn
   have h2:=wpOp_putIf hoj (hfree j oj hoj hji hjun hno) (fun cs b => hsel i oi cs b hi) (fun cs b => hsel j oj cs b hoj) hQ hy h1
   have hfree' : ∀ k ok,ops[k]? = some ok → k ≠ i → (listed.setIfInBounds j true).getD k true = false →
     (∀ e ∈ ok.after,Region.binds md e = true → e.on ≠ i) → oi.apart ops ok = true:=fun k ok hk hki hun hno => by
    refine hfree k ok hk hki ?_ hno
    by_cases hjk : j = k
    ·subst hjk;exact hjun
    ·rw [getD_set_ne true hjk] at hun;exact hun
   have hcomm : (listed.setIfInBounds i true).setIfInBounds j true = (listed.setIfInBounds j true).setIfInBounds i true:=Array.setIfInBounds_comm _ _ (Ne.symm hji)
   refine wpOp_mono (fun a' w' h3 => ?_) h2
   obtain ⟨hyy,⟨hT',hS'⟩,hrest⟩:=h3
   rw [hcomm,noLate_set hil] at hS'
   rw [hcomm] at hrest;exact ⟨⟨hT',fun _ => hS' hn'⟩,ih (listed.setIfInBounds j true) a' w' hfree' (ready_mono hr (Ne.symm hji)) hun' hyy hT' (hS' hn') hn' hrest⟩
def mayTakeS (md : Region.Mode) (ops : Array Oper) (late : List Nat) : List Nat → Array Bool → Bool
 | [],_ => true
 | i :: r,listed => Region.free md ops listed i && (Region.ready md ops listed).contains i && !(late.contains i) && waitC md ops (clo md ops i) i && late.all (fun l => (clo md ops i).contains l) && (clo md ops i).all (fun c => !(listed.getD c false)) && noLate late listed && mayTakeS md ops late r (listed.setIfInBounds i true)
def RunsS (P : Program) (ops : Array Oper) (S T : World → Prop) : List Nat → Act → Act → Prop
 | [],a,a' => a = a'
 | i :: r,a,a' => ∃ o v,ops[i]? = some o ∧ YieldsIf P ops (fun w => T w ∧ S w) o v a ∧ RunsS P ops S T r (a.put o.dst v) a'
theorem RunsS.one {i : Nat} {r : List Nat} {a a' : Act} {o : Oper} {v : Value} (ho : ops[i]? = some o) (hw : Region.wanted o (yielded ops a.tmps) = true)
  (hr : ∀ w,T w → S w → (execOp a.eval o).run P w = .ok (.value v) w) (h : RunsS P ops S T r (a.put o.dst v) a') : RunsS P ops S T (i :: r) a a':=⟨o,v,ho,.inl ⟨hw,fun w hw => hr w hw.1 hw.2⟩,h⟩
theorem rS (v : Value) {i : Nat} {r : List Nat} {a a' : Act} {o : Oper} (hr : ∀ w,T w → S w → (execOp a.eval o).run P w = .ok (.value v) w) (h : RunsS P ops S T r (a.put o.dst v) a') (ho : ops[i]? = some o:=by rfl) (hw : Region.wanted o (yielded ops a.tmps) = true:=by rfl) : RunsS P ops S T (i :: r) a a':=RunsS.one ho hw hr h
theorem RunsS.nil {a : Act} : RunsS P ops S T [] a a:=rfl
theorem wpL_takeS : ∀ (is : List Nat) {fuel : Nat} {listed : Array Bool} {a a' : Act} {w : World} (hs : Region.noSelect ops = true) (hm : mayTakeS md ops late is listed = true)
  (hQ : ∀ c a d v w,Q (.panic c) (Act.put a d v) w → Q (.panic c) a w) (hT : T w) (hS : S w) (hr : RunsS P ops S T is a a')
  (h : wpL P md ops Q S T late fuel (take is listed) a' w),wpL P md ops Q S T late (fuel + is.length) listed a w
 | [],_,_,_,_,_,_,_,_,_,_,hr,h => by cases hr;exact h
 | i :: r,fuel,listed,a,a',w,hs,hm,hQ,hT,hS,hr,h => by
  obtain ⟨o,v,ho,hy,hr'⟩:=hr
  simp only [mayTakeS,Bool.and_eq_true,Bool.not_eq_true'] at hm
  obtain ⟨⟨⟨⟨⟨⟨⟨h1,h2⟩,h3⟩,h4⟩,h5⟩,h6⟩,h7⟩,h8⟩:=hm
  have:=wpL_takeS r (listed:=listed.setIfInBounds i true) hs h8 hQ hT hS hr' h
  exact wpL_firstS (clo md ops i) ho h3 (Region.noSelect_spec hs) (fun c a w => hQ c a _ _ w) (fun l hl => by simpa using List.all_eq_true.1 h5 l hl) h4 _ listed a w (Region.free_spec ho h1) (by simpa using h2) (fun c hc => by simpa using List.all_eq_true.1 h6 c hc) hy hT hS h7 this
end
end RG
end Go.Proofs.Ytfbnakmmmphedaa
