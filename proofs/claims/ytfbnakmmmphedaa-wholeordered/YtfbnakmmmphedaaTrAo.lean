/-
  Tr1, Tr2 in one.
-/
import Derived.Test.YtfbnakmmmphedaaGoodo
set_option linter.unusedVariables false
set_option linter.unusedSimpArgs false
namespace Go.Proofs.Ytfbnakmmmphedaa
open Go
namespace Tr
open Mc
def e0 : Ev:=⟨0,0,0,0,false⟩
def rnC (l : List Ev) : Nat:=1 + l.countP (fun e => decide (e.op = 14 ∧ e.value ≠ 0))
def snC (l : List Ev) (c : Int) : Nat:=l.countP (fun e => decide (e.op = 5 ∧ e.a = c))
def tkC (l : List Ev) (c : Int) : Nat:=l.countP (fun e => decide (e.op = 6 ∧ e.shut = false ∧ e.a = c))
def clC (l : List Ev) (c : Int) : Bool:=l.any (fun e => decide (e.op = 7 ∧ e.a = c))
def hdS (h : Option Int) (k : Int) (e : Ev) : Option Int:=if e.op = 8 ∧ e.a = k then some e.who else if e.op = 9 ∧ e.a = k then none else h
def hdC (l : List Ev) (k : Int) : Option Int:=l.foldl (fun h e => hdS h k e) none
theorem rnC_snoc (l : List Ev) (e : Ev) : rnC (l ++ [e]) = rnC l + (if e.op = 14 ∧ e.value ≠ 0 then 1 else 0):=by
 unfold rnC
 rw [List.countP_append,List.countP_cons,List.countP_nil]
 split <;> simp_all <;> omega
theorem snC_snoc (l : List Ev) (e : Ev) (c : Int) : snC (l ++ [e]) c = snC l c + (if e.op = 5 ∧ e.a = c then 1 else 0):=by
 unfold snC
 rw [List.countP_append,List.countP_cons,List.countP_nil]
 split <;> simp_all
theorem tkC_snoc (l : List Ev) (e : Ev) (c : Int) : tkC (l ++ [e]) c = tkC l c + (if e.op = 6 ∧ e.shut = false ∧ e.a = c then 1 else 0):=by
 unfold tkC
 rw [List.countP_append,List.countP_cons,List.countP_nil]
 split <;> simp_all
theorem clC_snoc (l : List Ev) (e : Ev) (c : Int) : clC (l ++ [e]) c = (clC l c || decide (e.op = 7 ∧ e.a = c)):=by
 simp [clC]
theorem hdC_snoc (l : List Ev) (e : Ev) (k : Int) : hdC (l ++ [e]) k = hdS (hdC l k) k e:=by
 simp [hdC,List.foldl_append]
theorem take_snoc (l : List Ev) (i : Nat) (h : i < l.length) : l.take (i + 1) = l.take i ++ [l.getD i e0]:=by
 rw [List.take_add_one,List.getD_eq_getElem?_getD,List.getElem?_eq_getElem h]
 rfl
def mnC (s : Syst) (op : Int) : Option Int :=
 if op = 5 ∨ op = 6 ∨ op = 7 then some s.rooms.length
 else if op = 8 ∨ op = 9 then some s.locks
 else if op = 10 ∨ op = 11 then some s.groups
 else if op = 12 ∨ op = 13 then some s.cells
 else if op = 14 then some s.progs.length
 else none
structure FitA (s : Syst) (p : List Ev) (e : Ev) : Prop where
 w0 : 0 ≤ e.who
 w1 : e.who < rnC p
 o0 : 1 ≤ e.op
 o1 : e.op ≤ 16
 a : ∀ m,mnC s e.op = some m → 0 ≤ e.a ∧ e.a < m
structure FitE (s : Syst) (p : List Ev) (e : Ev) : Prop extends FitA s p e where
 st : e.op = 14 → e.value = 0 ∨ (e.value = rnC p ∧ rnC p < 512)
 tk : e.op = 6 → e.shut = false → tkC p e.a < snC p e.a
 ts : e.op = 6 → e.shut = true → clC p e.a = true
 lk : e.op = 8 → hdC p e.a = none
def Gd (s : Syst) (l : List Ev) (i : Nat) : Prop:=∀ j,j < i → FitE s (l.take j) (l.getD j e0)
theorem Gd.zero (s : Syst) (l : List Ev) : Gd s l 0:=fun j hj => absurd hj (Nat.not_lt_zero _)
theorem Gd.succ {s : Syst} {l : List Ev} {i : Nat} (h : Gd s l i) (hf : FitE s (l.take i) (l.getD i e0)) : Gd s l (i + 1):=fun j hj => by
 rcases Nat.lt_succ_iff_lt_or_eq.1 hj with h1 | rfl
 ·exact h j h1
 ·exact hf
def decR (s : Syst) (p : Nat) (i : Ins) : Decidable (rightM s p i):=by
 unfold rightM fitM
 exact inferInstance
def decO (s : Syst) : Decidable (Ok s) :=
 have d : ∀ p i,Decidable (rightM s p i):=decR s
 decidable_of_iff ((1 ≤ s.progs.length ∧ s.progs.length ≤ 64 ∧ s.rooms.length ≤ 64 ∧ (0 ≤ s.groups ∧ s.groups ≤ 64) ∧ (0 ≤ s.locks ∧ s.locks ≤ 64) ∧ (0 ≤ s.cells ∧ s.cells ≤ 64)) ∧ (∀ i,i < s.rooms.length → 1 ≤ s.rooms.getD i 0 ∧ s.rooms.getD i 0 ≤ 1024) ∧ (∀ p,p < s.progs.length → (s.progs.getD p []).length ≤ 256) ∧ (∀ p,p < s.progs.length → ∀ j,j < (s.progs.getD p []).length → rightM s p ((s.progs.getD p []).getD j i0)))
  ⟨fun h => ⟨h.1.1,h.1.2.1,h.1.2.2.1,h.1.2.2.2.1,h.1.2.2.2.2.1,h.1.2.2.2.2.2,h.2.1,h.2.2.1,h.2.2.2⟩,fun h => ⟨⟨h.p1,h.p2,h.r1,h.g1,h.l1,h.c1⟩,h.rm,h.pl,h.rt⟩⟩
def decF (s : Syst) (p : List Ev) (e : Ev) : Decidable (FitE s p e) :=
 decidable_of_iff ((0 ≤ e.who ∧ e.who < rnC p ∧ 1 ≤ e.op ∧ e.op ≤ 16 ∧ (mnC s e.op).all (fun m => decide (0 ≤ e.a ∧ e.a < m)) = true) ∧ (e.op = 14 → e.value = 0 ∨ (e.value = rnC p ∧ rnC p < 512)) ∧ (e.op = 6 → e.shut = false → tkC p e.a < snC p e.a) ∧ (e.op = 6 → e.shut = true → clC p e.a = true) ∧ (e.op = 8 → hdC p e.a = none))
  ⟨fun h => ⟨⟨h.1.1,h.1.2.1,h.1.2.2.1,h.1.2.2.2.1,fun m hm => by
    have h5:=h.1.2.2.2.2
    rw [hm] at h5;exact of_decide_eq_true h5⟩,h.2.1,h.2.2.1,h.2.2.2.1,h.2.2.2.2⟩,
   fun h => ⟨⟨h.w0,h.w1,h.o0,h.o1,by
    rcases hm : mnC s e.op with _ | m
    ·rfl
    ·exact decide_eq_true (h.a m hm)⟩,h.st,h.tk,h.ts,h.lk⟩⟩
def fstB (s : Syst) (l : List Ev) : Nat → Option Nat
 | 0 => none
 | n + 1 => match fstB s l n with
  | some i => some i
  | none => @ite _ (FitE s (l.take n) (l.getD n e0)) (decF s (l.take n) (l.getD n e0)) none (some n)
theorem fstB_good {s : Syst} {l : List Ev} {i : Nat} (hg : Gd s l i) : ∀ n,n ≤ i → fstB s l n = none
 | 0,_ => rfl
 | n + 1,h => by
  rw [fstB,fstB_good hg n (by omega)]
  exact if_pos (hg n (by omega))
theorem fstB_bad {s : Syst} {l : List Ev} {i : Nat} (hg : Gd s l i) (hf : ¬ FitE s (l.take i) (l.getD i e0)) : ∀ n,i < n → fstB s l n = some i
 | 0,h => absurd h (Nat.not_lt_zero _)
 | n + 1,h => by
  rcases Nat.lt_succ_iff_lt_or_eq.1 h with h1 | rfl
  ·rw [fstB,fstB_bad hg hf n h1]
  ·rw [fstB,fstB_good hg i (Nat.le_refl _)]
   exact if_neg hf
def vR (s : Syst) (l : List Ev) : Int × Int × Int :=
 @ite _ (Ok s) (decO s)
  (if 40000 < l.length then (0,0,2)
  else match fstB s l l.length with
   | some i => ((i : Int),0,140)
   | none => (0,rnC l,0))
  (0,0,130)
theorem vR_sys {s : Syst} {l : List Ev} (h : ¬ Ok s) : vR s l = (0,0,130):=by
 unfold vR;rw [if_neg h]
theorem vR_long {s : Syst} {l : List Ev} (h : Ok s) (h1 : 40000 < l.length) : vR s l = (0,0,2):=by
 unfold vR;rw [if_pos h,if_pos h1]
theorem vR_bad {s : Syst} {l : List Ev} {i : Nat} (h : Ok s) (h1 : ¬ 40000 < l.length) (hi : i < l.length) (hg : Gd s l i) (hf : ¬ FitE s (l.take i) (l.getD i e0)) : vR s l = ((i : Int),0,140):=by
 unfold vR
 rw [if_pos h,if_neg h1,fstB_bad hg hf l.length hi]
theorem vR_good {s : Syst} {l : List Ev} (h : Ok s) (h1 : ¬ 40000 < l.length) (hg : Gd s l l.length) : vR s l = (0,(rnC l : Int),0):=by
 unfold vR
 rw [if_pos h,if_neg h1,fstB_good hg l.length (Nat.le_refl _)]
theorem vR_ok {s : Syst} {l : List Ev} (h : (vR s l).2.2 = 0) : Ok s ∧ l.length ≤ 40000 ∧ Gd s l l.length ∧ vR s l = (0,(rnC l : Int),0):=by
 by_cases h1 : Ok s
 ·by_cases h2 : 40000 < l.length
  ·rw [vR_long h1 h2] at h;simp at h
  ·by_cases h3 : ∃ i,i < l.length ∧ Gd s l i ∧ ¬ FitE s (l.take i) (l.getD i e0)
   ·obtain ⟨i,hi,hg,hf⟩:=h3
    rw [vR_bad h1 h2 hi hg hf] at h;simp at h
   ·have hg : ∀ i,i ≤ l.length → Gd s l i:=by
     intro i
     induction i with
     | zero => exact fun _ => Gd.zero s l
     | succ i ih => exact fun hi => (ih (by omega)).succ (Classical.byContradiction fun hf => h3 ⟨i,by omega,ih (by omega),hf⟩)
    exact ⟨h1,by omega,hg _ (Nat.le_refl _),vR_good h1 h2 (hg _ (Nat.le_refl _))⟩
 ·rw [vR_sys h1] at h;simp at h
theorem rnC_pos (l : List Ev) : 1 ≤ rnC l:=by unfold rnC;omega
theorem rnC_len (l : List Ev) : rnC l ≤ l.length + 1:=by
 unfold rnC
 have:=List.countP_le_length (p:=fun e : Ev => decide (e.op = 14 ∧ e.value ≠ 0)) (l:=l)
 omega
theorem snC_len (l : List Ev) (c : Int) : snC l c ≤ l.length:=List.countP_le_length
theorem tkC_len (l : List Ev) (c : Int) : tkC l c ≤ l.length:=List.countP_le_length
theorem rnC_le {s : Syst} {l : List Ev} (i : Nat) (hi : i ≤ l.length) (h : Gd s l i) : rnC (l.take i) ≤ 512:=by
 induction i with
 | zero => simp [rnC]
 | succ i ih =>
  have h1:=ih (by omega) (fun j hj => h j (by omega))
  rw [take_snoc l i (by omega),rnC_snoc]
  split
  ·rename_i hc
   rcases (h i (by omega)).st hc.1 with h2 | h2
   ·exact absurd h2 hc.2
   ·omega
  ·omega
end Tr
end Go.Proofs.Ytfbnakmmmphedaa
namespace Go.Proofs.Ytfbnakmmmphedaa
open List renaming getD_eq_getElem?_getD → gDQ
open Go
namespace Tr
open Mc
def ev (l : List Ev) (i : Nat) : Ev:=l.getD i e0
def E1 (l : List Ev) (i j : Nat) : Prop:=i < j ∧ (ev l i).who = (ev l j).who ∧ ∀ k,i < k → k < j → (ev l k).who ≠ (ev l j).who
def E2 (l : List Ev) (i j : Nat) : Prop:=i < j ∧ (ev l i).op = 14 ∧ (ev l i).value = (ev l j).who ∧ 0 < (ev l j).who ∧ ∀ k,k < j → (ev l k).who ≠ (ev l j).who
def E3 (l : List Ev) (i j : Nat) : Prop:=i < j ∧ (ev l j).op = 6 ∧ (ev l j).shut = false ∧ (ev l i).op = 5 ∧ (ev l i).a = (ev l j).a ∧ snC (l.take i) (ev l j).a = tkC (l.take j) (ev l j).a
def E4 (s : Syst) (l : List Ev) (i j : Nat) : Prop:=i < j ∧ (ev l j).op = 5 ∧ (ev l i).op = 6 ∧ (ev l i).shut = false ∧ (ev l i).a = (ev l j).a ∧ (tkC (l.take i) (ev l j).a : Int) + s.rooms.getD (ev l j).a.toNat 0 = snC (l.take j) (ev l j).a
def E5 (l : List Ev) (i j : Nat) : Prop:=i < j ∧ (ev l j).op = 6 ∧ (ev l j).shut = true ∧ (ev l i).op = 7 ∧ (ev l i).a = (ev l j).a ∧ clC (l.take i) (ev l j).a = false
def E6 (l : List Ev) (i j : Nat) : Prop:=i < j ∧ (ev l j).op = 8 ∧ (ev l i).op = 9 ∧ (ev l i).a = (ev l j).a ∧ ∀ k,i < k → k < j → ¬ ((ev l k).op = 8 ∧ (ev l k).a = (ev l j).a)
def E7 (l : List Ev) (i j : Nat) : Prop:=i < j ∧ (ev l j).op = 11 ∧ (ev l i).op = 10 ∧ (ev l i).a = (ev l j).a
def EL (s : Syst) (l : List Ev) (i j : Nat) : Prop:=E1 l i j ∨ E2 l i j ∨ E3 l i j ∨ E4 s l i j ∨ E5 l i j ∨ E6 l i j
def Eg (s : Syst) (l : List Ev) (i j : Nat) : Prop:=EL s l i j ∨ E7 l i j
theorem EL.lt {s : Syst} {l : List Ev} {i j : Nat} (h : EL s l i j) : i < j:=by
 rcases h with h | h | h | h | h | h <;> exact h.1
theorem Eg.lt {s : Syst} {l : List Ev} {i j : Nat} (h : Eg s l i j) : i < j:=by
 rcases h with h | h
 ·exact h.lt
 ·exact h.1
def decB (i j : Nat) (p : Nat → Prop) (d : ∀ k,Decidable (p k)) : Decidable (∀ k,i < k → k < j → p k):=decidable_of_iff (∀ k,k < j → i < k → p k) ⟨fun h k h1 h2 => h k h2 h1,fun h k h1 h2 => h k h2 h1⟩
def decE (s : Syst) (l : List Ev) (i j : Nat) : Decidable (Eg s l i j):=by
 unfold Eg EL E1 E2 E3 E4 E5 E6 E7
 have d1 : Decidable (∀ k,i < k → k < j → (ev l k).who ≠ (ev l j).who):=decB i j _ (fun k => inferInstance)
 have d2 : Decidable (∀ k,i < k → k < j → ¬ ((ev l k).op = 8 ∧ (ev l k).a = (ev l j).a)):=decB i j _ (fun k => inferInstance)
 exact inferInstance
def mx (P : Nat → Prop) (d : ∀ i,Decidable (P i)) (f : Nat → Nat) : Nat → Nat
 | 0 => 0
 | n + 1 => @ite _ (P n) (d n) (max (mx P d f n) (f n)) (mx P d f n)
theorem mx_ge {P : Nat → Prop} {d : ∀ i,Decidable (P i)} {f : Nat → Nat} {n i : Nat} (h : i < n) (hP : P i) : f i ≤ mx P d f n:=by
 induction n with
 | zero => omega
 | succ n ih =>
  unfold mx;rcases Nat.lt_succ_iff_lt_or_eq.1 h with h1 | rfl
  ·have:=ih h1
   split <;> omega
  ·rw [if_pos hP];omega
theorem mx_is (P : Nat → Prop) (d : ∀ i,Decidable (P i)) (f : Nat → Nat) (n : Nat) : mx P d f n = 0 ∨ ∃ i,i < n ∧ P i ∧ f i = mx P d f n:=by
 induction n with
 | zero => exact .inl rfl
 | succ n ih =>
  unfold mx;by_cases hP : P n
  ·rw [if_pos hP]
   rcases Nat.le_total (mx P d f n) (f n) with h | h
   ·exact .inr ⟨n,by omega,hP,by omega⟩
   ·rcases ih with h1 | ⟨i,h1,h2,h3⟩
    ·exact .inl (by omega)
    ·exact .inr ⟨i,by omega,h2,by omega⟩
  ·rw [if_neg hP]
   rcases ih with h1 | ⟨i,h1,h2,h3⟩
   ·exact .inl h1
   ·exact .inr ⟨i,by omega,h2,h3⟩
theorem mx_eq {P : Nat → Prop} {d : ∀ i,Decidable (P i)} {f : Nat → Nat} {n v : Nat} (h1 : ∀ i,i < n → P i → f i ≤ v) (h2 : v = 0 ∨ ∃ i,i < n ∧ P i ∧ f i = v) : mx P d f n = v:=by
 have h3 : mx P d f n ≤ v:=by
  rcases mx_is P d f n with h | ⟨i,hi,hP,h⟩
  ·omega
  ·rw [← h];exact h1 i hi hP
 rcases h2 with h | ⟨i,hi,hP,h⟩
 ·omega
 ·have:=mx_ge (d:=d) (f:=f) hi hP
  omega
theorem mx_congr {P P' : Nat → Prop} {d : ∀ i,Decidable (P i)} {d' : ∀ i,Decidable (P' i)} {f f' : Nat → Nat} {n : Nat} (h1 : ∀ i,i < n → (P i ↔ P' i)) (h2 : ∀ i,i < n → f i = f' i) : mx P d f n = mx P' d' f' n:=by
 refine mx_eq (fun i hi hP => ?_) ?_
 ·rw [h2 i hi];exact mx_ge hi ((h1 i hi).1 hP)
 ·rcases mx_is P' d' f' n with h | ⟨i,hi,hP,h⟩
  ·exact .inl h
  ·exact .inr ⟨i,hi,(h1 i hi).2 hP,by rw [h2 i hi];exact h⟩
def ckL (s : Syst) (l : List Ev) (w : Int) : Nat → List Nat
 | 0 => []
 | n + 1 => ckL s l w n ++ [mx (fun i => Eg s l i n) (fun i => decE s l i n) (fun i => (ckL s l w n).getD i 0) n + if (ev l n).who = w then 1 else 0]
def ck (s : Syst) (l : List Ev) (w : Int) (j : Nat) : Nat:=(ckL s l w (j + 1)).getD j 0
theorem ckL_len (s : Syst) (l : List Ev) (w : Int) (n : Nat) : (ckL s l w n).length = n:=by
 induction n with
 | zero => rfl
 | succ n ih => simp [ckL,ih]
theorem ckL_get (s : Syst) (l : List Ev) (w : Int) (n i : Nat) (h : i < n) : (ckL s l w n).getD i 0 = ck s l w i:=by
 induction n with
 | zero => omega
 | succ n ih =>
  rcases Nat.lt_succ_iff_lt_or_eq.1 h with h1 | rfl
  ·rw [← ih h1,ckL,gDQ,gDQ,List.getElem?_append_left (by rw [ckL_len];exact h1)]
  ·rfl
theorem ck_eq (s : Syst) (l : List Ev) (w : Int) (j : Nat) : ck s l w j = mx (fun i => Eg s l i j) (fun i => decE s l i j) (ck s l w) j + if (ev l j).who = w then 1 else 0:=by
 rw [ck,ckL,gDQ,List.getElem?_append_right (by rw [ckL_len];exact Nat.le_refl _),ckL_len,Nat.sub_self]
 show mx _ _ _ j + _ = _
 rw [mx_congr (d':=fun i => decE s l i j) (f':=ck s l w) (fun i _ => Iff.rfl) (fun i hi => ckL_get s l w j i hi)]
theorem ck_mono {s : Syst} {l : List Ev} {i j : Nat} (w : Int) (h : Eg s l i j) : ck s l w i ≤ ck s l w j:=by
 rw [ck_eq s l w j]
 have:=mx_ge (P:=fun i => Eg s l i j) (d:=fun i => decE s l i j) (f:=ck s l w) h.lt h
 omega
def wc (l : List Ev) (w : Int) (n : Nat) : Nat:=(l.take n).countP (fun e => decide (e.who = w))
theorem wc_succ (l : List Ev) (w : Int) (n : Nat) (h : n < l.length) : wc l w (n + 1) = wc l w n + if (ev l n).who = w then 1 else 0:=by
 unfold wc ev
 rw [take_snoc l n h,List.countP_append,List.countP_cons,List.countP_nil]
 split <;> simp_all
theorem wc_mono (l : List Ev) (w : Int) {m n : Nat} (h : m ≤ n) (hn : n ≤ l.length) : wc l w m ≤ wc l w n:=by
 induction n with
 | zero =>
      obtain rfl : m = 0:=by omega
      exact Nat.le_refl _
 | succ n ih =>
  rcases Nat.lt_or_eq_of_le h with h1 | rfl
  ·have:=ih (by omega) (by omega)
   rw [wc_succ l w n (by omega)]
   omega
  ·exact Nat.le_refl _
theorem wc_none (l : List Ev) (w : Int) {m n : Nat} (h : m ≤ n) (hn : n ≤ l.length) (hw : ∀ k,m ≤ k → k < n → (ev l k).who ≠ w) : wc l w n = wc l w m:=by
 induction n with
 | zero =>
      obtain rfl : m = 0:=by omega
      rfl
 | succ n ih =>
  rcases Nat.lt_or_eq_of_le h with h1 | rfl
  ·rw [wc_succ l w n (by omega),ih (by omega) (by omega) (fun k h2 h3 => hw k h2 (by omega)),if_neg (hw n (by omega) (by omega))]
   rfl
  ·rfl
theorem ck_le (s : Syst) (l : List Ev) (w : Int) (j : Nat) (hj : j < l.length) : ck s l w j ≤ wc l w (j + 1):=by
 induction j using Nat.strongRecOn with
 | _ j ih =>
  rw [ck_eq,wc_succ l w j hj];have : mx (fun i => Eg s l i j) (fun i => decE s l i j) (ck s l w) j ≤ wc l w j:=by
   rcases mx_is (fun i => Eg s l i j) (fun i => decE s l i j) (ck s l w) j with h | ⟨i,hi,_,h⟩
   ·omega
   ·rw [← h]
    exact Nat.le_trans (ih i hi (by omega)) (wc_mono l w hi (by omega))
  omega
theorem last_of (P : Nat → Prop) (n : Nat) : (∀ k,k < n → ¬ P k) ∨ ∃ i,i < n ∧ P i ∧ ∀ k,i < k → k < n → ¬ P k:=by
 induction n with
 | zero => exact .inl (fun k hk => by omega)
 | succ n ih =>
  by_cases hP : P n
  ·exact .inr ⟨n,by omega,hP,fun k h1 h2 => by omega⟩
  ·rcases ih with h | ⟨i,h1,h2,h3⟩
   ·refine .inl fun k hk => ?_
    rcases Nat.lt_succ_iff_lt_or_eq.1 hk with h4 | rfl
    ·exact h k h4
    ·exact hP
   ·refine .inr ⟨i,by omega,h2,fun k h4 h5 => ?_⟩
    rcases Nat.lt_succ_iff_lt_or_eq.1 h5 with h6 | rfl
    ·exact h3 k h4 h6
    ·exact hP
theorem ck_own (s : Syst) (l : List Ev) (j : Nat) (hj : j < l.length) : ck s l (ev l j).who j = wc l (ev l j).who (j + 1):=by
 induction j using Nat.strongRecOn with
 | _ j ih =>
  refine Nat.le_antisymm (ck_le s l _ j hj) ?_
  rw [ck_eq,wc_succ l _ j hj];rcases last_of (fun k => (ev l k).who = (ev l j).who) j with h | ⟨i,h1,h2,h3⟩
  ·rw [wc_none l _ (Nat.zero_le j) (by omega) (fun k _ hk => h k hk)]
   simp [wc]
  ·have he : Eg s l i j:=.inl (.inl ⟨h1,h2,h3⟩)
   have:=mx_ge (P:=fun i => Eg s l i j) (d:=fun i => decE s l i j) (f:=ck s l (ev l j).who) h1 he
   have h4:=ih i h1 (by omega)
   rw [h2] at h4;rw [h4,← wc_none l _ (show i + 1 ≤ j by omega) (by omega) (fun k h5 h6 => h3 k (by omega) h6)] at this;omega
abbrev Bf (s : Syst) (l : List Ev) (i j : Nat) : Prop:=Relation.TransGen (Eg s l) i j
theorem Bf.one {s : Syst} {l : List Ev} {i j : Nat} (h : Eg s l i j) : Bf s l i j:=Relation.TransGen.single h
theorem Bf.more {s : Syst} {l : List Ev} {i k j : Nat} (h : Bf s l i k) (h1 : Eg s l k j) : Bf s l i j:=Relation.TransGen.tail h h1
theorem Bf.lt {s : Syst} {l : List Ev} {i j : Nat} (h : Bf s l i j) : i < j:=by
 induction h with
 | single h => exact h.lt
 | tail h h1 ih => exact Nat.lt_trans ih h1.lt
theorem Bf.mono {s : Syst} {l : List Ev} {i j : Nat} (w : Int) (h : Bf s l i j) : ck s l w i ≤ ck s l w j:=by
 induction h with
 | single h => exact ck_mono w h
 | tail h h1 ih => exact Nat.le_trans ih (ck_mono w h1)
theorem Bf.trans {s : Syst} {l : List Ev} {i j k : Nat} (h : Bf s l i j) (h1 : Bf s l j k) : Bf s l i k:=by
 induction h1 with
 | single h1 => exact h.more h1
 | tail _ h2 ih => exact ih.more h2
theorem wc_inj {l : List Ev} {i j : Nat} (hi : i < l.length) (hj : j < l.length) (h : (ev l i).who = (ev l j).who) (hc : wc l (ev l i).who (i + 1) = wc l (ev l i).who (j + 1)) : i = j:=by
 rcases Nat.lt_trichotomy i j with h1 | h1 | h1
 ·have h2:=wc_mono l (ev l i).who (show i + 1 ≤ j from h1) (by omega)
  rw [wc_succ l _ j hj,if_pos h.symm] at hc;omega
 ·exact h1
 ·have h2:=wc_mono l (ev l i).who (show j + 1 ≤ i from h1) (by omega)
  rw [wc_succ l _ i hi,if_pos rfl] at hc;omega
theorem ck_bf (s : Syst) (l : List Ev) (e : Nat) (he : e < l.length) (j : Nat) (hj : j < l.length) (h : wc l (ev l e).who (e + 1) ≤ ck s l (ev l e).who j) : e = j ∨ Bf s l e j:=by
 induction j using Nat.strongRecOn with
 | _ j ih =>
  have hp : 1 ≤ wc l (ev l e).who (e + 1):=by rw [wc_succ l _ e he,if_pos rfl];omega
  by_cases hm : wc l (ev l e).who (e + 1) ≤ mx (fun i => Eg s l i j) (fun i => decE s l i j) (ck s l (ev l e).who) j
  ·rcases mx_is (fun i => Eg s l i j) (fun i => decE s l i j) (ck s l (ev l e).who) j with h1 | ⟨i,h1,h2,h3⟩
   ·omega
   ·rcases ih i h1 (by omega) (by omega) with rfl | h4
    ·exact .inr (.one h2)
    ·exact .inr (h4.more h2)
  ·have h1:=ck_eq s l (ev l e).who j
   by_cases hw : (ev l j).who = (ev l e).who
   ·left
    rw [if_pos hw] at h1;have h2:=ck_own s l j hj
    rw [hw] at h2;exact wc_inj he hj hw.symm (by omega)
   ·rw [if_neg hw] at h1
    omega
theorem bf_iff (s : Syst) (l : List Ev) (i j : Nat) (hi : i < l.length) (hj : j < l.length) : Bf s l i j ↔ (i ≠ j ∧ ck s l (ev l i).who i ≤ ck s l (ev l i).who j):=by
 constructor
 ·intro h
  exact ⟨fun e => by have:=h.lt;omega,h.mono _⟩
 ·rintro ⟨h1,h2⟩
  rw [ck_own s l i hi] at h2;rcases ck_bf s l i hi j hj h2 with h3 | h3
  ·exact absurd h3 h1
  ·exact h3
theorem bf_own (s : Syst) (l : List Ev) (i j : Nat) (hi : i < j) (hj : j < l.length) (h : (ev l i).who = (ev l j).who) : Bf s l i j:=by
 rw [bf_iff s l i j (by omega) hj]
 refine ⟨by omega,?_⟩
 rw [ck_own s l i (by omega),h,ck_own s l j hj]
 exact wc_mono l _ (by omega) (by omega)
theorem ev_take (l : List Ev) (n i : Nat) (h : i < n) : ev (l.take n) i = ev l i:=by
 unfold ev
 rw [gDQ,gDQ,List.getElem?_take,if_pos h]
theorem take_take' (l : List Ev) (n i : Nat) (h : i ≤ n) : (l.take n).take i = l.take i:=by
 rw [List.take_take,Nat.min_eq_left h]
theorem Eg_take (s : Syst) (l : List Ev) (n i j : Nat) (hj : j < n) : Eg s (l.take n) i j ↔ Eg s l i j:=by
 by_cases hi : i < j
 ·have a1:=ev_take l n i (by omega)
  have a2:=ev_take l n j hj
  have a3:=take_take' l n i (by omega)
  have a4:=take_take' l n j (by omega)
  have a5 : ∀ k,k < j → ev (l.take n) k = ev l k:=fun k hk => ev_take l n k (by omega)
  unfold Eg EL E1 E2 E3 E4 E5 E6 E7;rw [a1,a2,a3,a4];refine or_congr (or_congr ?_ (or_congr ?_ (or_congr Iff.rfl (or_congr Iff.rfl (or_congr Iff.rfl ?_))))) Iff.rfl
  ·refine and_congr Iff.rfl (and_congr Iff.rfl (forall_congr' fun k => forall_congr' fun _ => forall_congr' fun hk => ?_))
   rw [a5 k hk]
  ·refine and_congr Iff.rfl (and_congr Iff.rfl (and_congr Iff.rfl (and_congr Iff.rfl (forall_congr' fun k => forall_congr' fun hk => ?_))))
   rw [a5 k hk]
  ·refine and_congr Iff.rfl (and_congr Iff.rfl (and_congr Iff.rfl (and_congr Iff.rfl (forall_congr' fun k => forall_congr' fun _ => forall_congr' fun hk => ?_))))
   rw [a5 k hk]
 ·exact ⟨fun h => absurd h.lt hi,fun h => absurd h.lt hi⟩
end Tr
end Go.Proofs.Ytfbnakmmmphedaa
