/-
 What the events of a run tell: of each channel what went in and came out, of locks and groups what they are.
-/
import Derived.Test.YtfbnakmmmphedaaGoodo
set_option linter.unusedVariables false
set_option linter.unusedSimpArgs false
namespace Go.Proofs.Ytfbnakmmmphedaa
open Go
namespace Mc
def ch1 (s : Syst) (c : Nat) (x : List Int × Bool) (v : Ev) : Option (List Int × Bool) :=
 if v.a ≠ c then some x
 else if v.op = 5 then (if x.2 = true ∨ s.rooms.getD c 0 < ((x.1 ++ [v.value]).length : Int) then none else some (x.1 ++ [v.value],x.2))
 else if v.op = 7 then (if x.2 = true then none else some (x.1,true))
 else if v.op = 6 then
  (if v.shut = true then (if x.2 = false ∨ x.1 ≠ [] then none else some x)
  else if x.1 = [] ∨ x.1.headD 0 ≠ v.value then none else some (x.1.tail,x.2))
 else some x
theorem on_st (s : Syst) (t : St) (k : Nat) (hb : bad s t k = 0) : (step s t k).held = (act s t k).st.held ∧ (step s t k).shut = (act s t k).st.shut ∧ (step s t k).locked = (act s t k).st.locked ∧ (step s t k).groups = (act s t k).st.groups ∧ (step s t k).cells = (act s t k).st.cells:=by
 unfold step
 rw [if_neg (by simp [hb])]
 exact ⟨rfl,rfl,rfl,rfl,rfl⟩
theorem ch1_other {s : Syst} {c : Nat} {x : List Int × Bool} {v : Ev} (h : v.op < 5 ∨ 7 < v.op) : ch1 s c x v = some x:=by
 unfold ch1
 split
 ·rfl
 ·rw [if_neg (by omega),if_neg (by omega),if_neg (by omega)]
theorem own_shared (s : Syst) (t : St) (k : Nat) (h : ¬ (5 ≤ (ins s t k).op ∧ (ins s t k).op ≤ 7)) : (act s t k).st.held = t.held ∧ (act s t k).st.shut = t.shut:=by
 unfold act
 rw [if_neg h]
 split
 ·exact shar_cases s t k (fun x => x.st.held = t.held ∧ x.st.shut = t.shut) (fun _ _ _ _ _ _ _ _ => ⟨rfl,rfl⟩)
 ·exact ⟨rfl,rfl⟩
theorem getD_set_ne {α : Type} (l : List α) {i j : Nat} (v d : α) (h : i ≠ j) : (l.set i v).getD j d = l.getD j d:=by
 rw [getD_set,if_neg (fun hh => h hh.1)]
theorem getD_set_eq {α : Type} (l : List α) {i : Nat} (v d : α) (h : i < l.length) : (l.set i v).getD i d = v:=by
 rw [getD_set,if_pos ⟨rfl,h⟩]
theorem chan5s {s : Syst} {t : St} {k : Nat} (h : (ins s t k).op = 5) (h2 : t.shut.getD (ins s t k).a.toNat false = true) : chan s t k = ⟨(ins s t k).a,reg t k (ins s t k).b,false,131,t⟩:=by
 unfold chan;rw [if_pos h,if_pos h2]
theorem chan5 {s : Syst} {t : St} {k : Nat} (h : (ins s t k).op = 5) (h2 : ¬ t.shut.getD (ins s t k).a.toNat false = true) : chan s t k = ⟨(ins s t k).a,reg t k (ins s t k).b,false,0,{ t with held:=t.held.set (ins s t k).a.toNat (t.held.getD (ins s t k).a.toNat [] ++ [reg t k (ins s t k).b]) }⟩:=by
 unfold chan;rw [if_pos h,if_neg h2]
theorem chan6e {s : Syst} {t : St} {k : Nat} (h : (ins s t k).op = 6) (h2 : t.held.getD (ins s t k).a.toNat [] = []) : chan s t k = ⟨(ins s t k).a,reg t k (ins s t k).b,true,0,{ t with rns:=setP t k ((ins s t k).c - 1) }⟩:=by
 unfold chan;rw [if_neg (by rw [h];decide),if_pos h,if_pos h2]
theorem chan6 {s : Syst} {t : St} {k : Nat} (h : (ins s t k).op = 6) (h2 : ¬ t.held.getD (ins s t k).a.toNat [] = []) : chan s t k = ⟨(ins s t k).a,(t.held.getD (ins s t k).a.toNat []).headD 0,false,0,{ t with held:=t.held.set (ins s t k).a.toNat (t.held.getD (ins s t k).a.toNat []).tail,rns:=setR t k (ins s t k).b ((t.held.getD (ins s t k).a.toNat []).headD 0) }⟩:=by
 unfold chan;rw [if_neg (by rw [h];decide),if_pos h,if_neg h2]
theorem chan7s {s : Syst} {t : St} {k : Nat} (h : (ins s t k).op = 7) (h2 : t.shut.getD (ins s t k).a.toNat false = true) : chan s t k = ⟨(ins s t k).a,0,false,132,t⟩:=by
 unfold chan;rw [if_neg (by rw [h];decide),if_neg (by rw [h];decide),if_pos h2]
theorem chan7 {s : Syst} {t : St} {k : Nat} (h : (ins s t k).op = 7) (h2 : ¬ t.shut.getD (ins s t k).a.toNat false = true) : chan s t k = ⟨(ins s t k).a,0,false,0,{ t with shut:=t.shut.set (ins s t k).a.toNat true }⟩:=by
 unfold chan;rw [if_neg (by rw [h];decide),if_neg (by rw [h];decide),if_neg h2]
theorem step_ch {s : Syst} {t : St} {k : Nat} (ho : Ok s) (h : Good s t) (hk : k < t.rns.length) (hc : can s t k = true) (hb : bad s t k = 0) (c : Nat) (hcl : c < s.rooms.length) :
  ch1 s c (t.held.getD c [],t.shut.getD c false) (ev s t k) = some ((step s t k).held.getD c [],(step s t k).shut.getD c false):=by
 obtain ⟨e1,e2,_⟩:=on_st s t k hb
 rw [e1,e2]
 by_cases h5 : 5 ≤ (ins s t k).op ∧ (ins s t k).op ≤ 7
 ·have he:=can_going hc
  have hr:=ins_right ho h hk he
  have ha : act s t k = chan s t k:=by unfold act;rw [if_pos h5]
  unfold bad at hb;have hev : ev s t k = ⟨k,(ins s t k).op,(chan s t k).a,(chan s t k).v,(chan s t k).sh⟩:=by unfold ev;rw [ha]
  rw [hev,ha];rw [ha] at hb;have hop : (ins s t k).op = 5 ∨ (ins s t k).op = 6 ∨ (ins s t k).op = 7:=by omega
  have hac : 0 ≤ (ins s t k).a ∧ (ins s t k).a < s.rooms.length:=by
   obtain ⟨_,_,ha,_,_,_⟩:=hr
   rcases hop with h1 | h1 | h1 <;> (rw [h1] at ha;exact fit_c (show fitM s _ 99 _ from ha))
  have hca : (chan s t k).a = (ins s t k).a:=by
   unfold chan;repeat' split
   all_goals rfl
  by_cases hca2 : (ins s t k).a = (c : Int)
  ·have hat : (ins s t k).a.toNat = c:=by omega
   have hhl : c < t.held.length:=by rw [h.hl];exact hcl
   have hsl : c < t.shut.length:=by rw [h.sl];exact hcl
   rcases hop with h1 | h1 | h1
   ·by_cases hsh : t.shut.getD (ins s t k).a.toNat false = true
    ·rw [chan5s h1 hsh] at hb;cases hb
    ·rw [chan5 h1 hsh,hat]
     rw [hat] at hsh;have hsf : t.shut.getD c false = false:=by simpa using hsh
     unfold can at hc;rw [he,h1,hat,hsf] at hc;simp only [Bool.false_eq_true,if_false,if_true,Bool.false_or,decide_eq_true_eq] at hc
     unfold ch1;dsimp only
     rw [if_neg (by simp [hca2]),if_pos h1,if_neg,getD_set_eq _ _ _ hhl]
     rintro (h9 | h9)
     ·exact hsh h9
     ·simp only [List.length_append,List.length_cons,List.length_nil] at h9
      omega
   ·by_cases hem : t.held.getD (ins s t k).a.toNat [] = []
    ·rw [chan6e h1 hem]
     rw [hat] at hem;unfold can at hc;rw [he,h1,hat,hem] at hc;simp only [Bool.false_eq_true,if_false,if_true] at hc
     unfold ch1;dsimp only
     rw [if_neg (by simp [hca2]),if_neg (by rw [h1];decide),if_neg (by rw [h1];decide),if_pos h1,if_pos rfl,if_neg]
     rintro (h9 | h9)
     ·rw [h9] at hc;simp at hc
     ·exact h9 hem
    ·rw [chan6 h1 hem,hat]
     rw [hat] at hem;unfold ch1;dsimp only
     rw [if_neg (by simp [hca2]),if_neg (by rw [h1];decide),if_neg (by rw [h1];decide),if_pos h1,if_neg (by decide),if_neg,getD_set_eq _ _ _ hhl]
     rintro (h9 | h9)
     ·exact hem h9
     ·exact h9 rfl
   ·by_cases hsh : t.shut.getD (ins s t k).a.toNat false = true
    ·rw [chan7s h1 hsh] at hb;cases hb
    ·rw [chan7 h1 hsh,hat]
     rw [hat] at hsh;unfold ch1;dsimp only
     rw [if_neg (by simp [hca2]),if_neg (by rw [h1];decide),if_pos h1,if_neg hsh,getD_set_eq _ _ _ hsl]
  ·have hne : (ins s t k).a.toNat ≠ c:=by omega
   unfold ch1;rw [if_pos (by dsimp only;rw [hca];exact hca2)]
   have : (chan s t k).st.held.getD c [] = t.held.getD c [] ∧ (chan s t k).st.shut.getD c false = t.shut.getD c false:=by
    unfold chan;repeat' split
    all_goals first | exact ⟨rfl,rfl⟩ | exact ⟨getD_set_ne _ _ _ hne,rfl⟩ | exact ⟨rfl,getD_set_ne _ _ _ hne⟩
   rw [this.1,this.2]
 ·obtain ⟨e3,e4⟩:=own_shared s t k h5
  rw [e3,e4];exact ch1_other (by show (ins s t k).op < 5 ∨ _;show _ ∨ 7 < (ins s t k).op;omega)
def lk1 (s : Syst) (b : Bool) (x : List Bool × List Int) (v : Ev) : Option (List Bool × List Int) :=
 if ((v.op = 8 ∨ v.op = 9) ∧ (v.a < 0 ∨ s.locks ≤ v.a)) ∨ ((v.op = 10 ∨ v.op = 11) ∧ (v.a < 0 ∨ s.groups ≤ v.a)) then none
 else if v.op = 8 then (if x.1.getD v.a.toNat false = true then none else some (x.1.set v.a.toNat true,x.2))
 else if v.op = 9 then (if x.1.getD v.a.toNat false = b then none else some (x.1.set v.a.toNat false,x.2))
 else if v.op = 10 then (if decide (v.value < 0) ≠ b then none else some (x.1,x.2.set v.a.toNat v.value))
 else if v.op = 11 then (if x.2.getD v.a.toNat 0 ≠ 0 then none else some x)
 else some x
theorem lk1_other {s : Syst} {b : Bool} {x : List Bool × List Int} {v : Ev} (h : v.op < 8 ∨ 11 < v.op) : lk1 s b x v = some x:=by
 unfold lk1
 rw [if_neg (by omega),if_neg (by omega),if_neg (by omega),if_neg (by omega),if_neg (by omega)]
theorem shar8 {s : Syst} {t : St} {k : Nat} (h : (ins s t k).op = 8) : shar s t k = ⟨(ins s t k).a,0,false,0,{ t with locked:=t.locked.set (ins s t k).a.toNat true }⟩:=by
 unfold shar;rw [if_pos h]
theorem shar9 {s : Syst} {t : St} {k : Nat} (h : (ins s t k).op = 9) (h2 : t.locked.getD (ins s t k).a.toNat false = true) : shar s t k = ⟨(ins s t k).a,0,false,0,{ t with locked:=t.locked.set (ins s t k).a.toNat false }⟩:=by
 unfold shar;rw [if_neg (by rw [h];decide),if_pos h,if_pos h2]
theorem shar9e {s : Syst} {t : St} {k : Nat} (h : (ins s t k).op = 9) (h2 : ¬ t.locked.getD (ins s t k).a.toNat false = true) : shar s t k = ⟨(ins s t k).a,0,false,133,t⟩:=by
 unfold shar;rw [if_neg (by rw [h];decide),if_pos h,if_neg h2]
theorem shar10e {s : Syst} {t : St} {k : Nat} (h : (ins s t k).op = 10) (h2 : grp s t k < 0) : shar s t k = ⟨(ins s t k).a,grp s t k,false,134,t⟩:=by
 unfold shar;rw [if_neg (by rw [h];decide),if_neg (by rw [h];decide),if_pos h,if_pos h2]
theorem shar10 {s : Syst} {t : St} {k : Nat} (h : (ins s t k).op = 10) (h2 : ¬ grp s t k < 0) : shar s t k = ⟨(ins s t k).a,grp s t k,false,0,{ t with groups:=t.groups.set (ins s t k).a.toNat (grp s t k) }⟩:=by
 unfold shar;rw [if_neg (by rw [h];decide),if_neg (by rw [h];decide),if_pos h,if_neg h2]
theorem shar11 {s : Syst} {t : St} {k : Nat} (h : (ins s t k).op = 11) : shar s t k = ⟨(ins s t k).a,0,false,0,t⟩:=by
 unfold shar;rw [if_neg (by rw [h];decide),if_neg (by rw [h];decide),if_neg (by rw [h];decide),if_neg (by rw [h];decide),if_neg (by rw [h];decide),if_neg (by rw [h];decide),if_neg (by rw [h];decide)]
theorem act_sh {s : Syst} {t : St} {k : Nat} (h : 8 ≤ (ins s t k).op ∧ (ins s t k).op ≤ 15) : act s t k = shar s t k:=by
 unfold act
 rw [if_neg (by omega),if_pos h]
theorem act_lk (s : Syst) (t : St) (k : Nat) (h : (ins s t k).op < 8 ∨ 11 < (ins s t k).op) : (act s t k).st.locked = t.locked ∧ (act s t k).st.groups = t.groups:=by
 unfold act
 split
 ·exact chan_cases s t k (fun x => x.st.locked = t.locked ∧ x.st.groups = t.groups) (fun _ _ _ _ _ _ _ => ⟨rfl,rfl⟩)
 ·split
  ·unfold shar
   rw [if_neg (by omega),if_neg (by omega),if_neg (by omega)]
   repeat' split
   all_goals exact ⟨rfl,rfl⟩
  ·exact ⟨rfl,rfl⟩
theorem lk_bounds {s : Syst} {t : St} {k : Nat} (ho : Ok s) (h : Good s t) (hk : k < t.rns.length) (he : (rn t k).ended = false) : (((ins s t k).op = 8 ∨ (ins s t k).op = 9) → 0 ≤ (ins s t k).a ∧ (ins s t k).a < s.locks) ∧ (((ins s t k).op = 10 ∨ (ins s t k).op = 11) → 0 ≤ (ins s t k).a ∧ (ins s t k).a < s.groups):=by
 obtain ⟨_,_,ha,_,_,_⟩:=ins_right ho h hk he
 refine ⟨fun hop => ?_,fun hop => ?_⟩
 ·rcases hop with h1 | h1 <;> (rw [h1] at ha;exact fit_l (show fitM s _ 108 _ from ha))
 ·rcases hop with h1 | h1 <;> (rw [h1] at ha;exact fit_g (show fitM s _ 103 _ from ha))
theorem step_lk {s : Syst} {t : St} {k : Nat} (ho : Ok s) (h : Good s t) (hk : k < t.rns.length) (hc : can s t k = true) (hb : bad s t k = 0) :
  lk1 s false (t.locked,t.groups) (ev s t k) = some ((step s t k).locked,(step s t k).groups):=by
 obtain ⟨_,_,e1,e2,_⟩:=on_st s t k hb
 rw [e1,e2]
 by_cases h8 : (ins s t k).op < 8 ∨ 11 < (ins s t k).op
 ·obtain ⟨e3,e4⟩:=act_lk s t k h8
  rw [e3,e4];exact lk1_other h8
 ·have he:=can_going hc
  obtain ⟨b1,b2⟩:=lk_bounds ho h hk he
  have ha:=act_sh (s:=s) (t:=t) (k:=k) (by omega)
  unfold bad at hb;unfold ev;rw [ha] at hb ⊢;have hop : (ins s t k).op = 8 ∨ (ins s t k).op = 9 ∨ (ins s t k).op = 10 ∨ (ins s t k).op = 11:=by omega
  unfold lk1;rcases hop with h1 | h1 | h1 | h1
  ·have hb1:=b1 (.inl h1)
   rw [shar8 h1];dsimp only
   unfold can at hc;rw [he,h1] at hc;simp only [Bool.false_eq_true,if_false] at hc
   rw [if_neg (by omega),if_pos h1,if_neg (by simpa using hc)]
  ·have hb1:=b1 (.inr h1)
   by_cases hl : t.locked.getD (ins s t k).a.toNat false = true
   ·rw [shar9 h1 hl]
    dsimp only
    rw [if_neg (by omega),if_neg (by omega),if_pos h1,if_neg (by rw [hl];decide)]
   ·rw [shar9e h1 hl] at hb;cases hb
  ·have hb1:=b2 (.inl h1)
   by_cases hg : grp s t k < 0
   ·rw [shar10e h1 hg] at hb;cases hb
   ·rw [shar10 h1 hg]
    dsimp only
    rw [if_neg (by omega),if_neg (by omega),if_neg (by omega),if_pos h1,if_neg (by simp;omega)]
  ·have hb1:=b2 (.inr h1)
   rw [shar11 h1];dsimp only
   unfold can at hc;rw [he,h1] at hc;simp only [Bool.false_eq_true,if_false] at hc
   rw [if_neg (by omega),if_neg (by omega),if_neg (by omega),if_neg (by omega),if_pos h1,if_neg (by simpa using hc)]
theorem run_all {s : Syst} (ho : Ok s) (hn : Nm s) (picks : List Int) (P : St → Prop) (hP : ∀ t k,P t → Good s t → k < t.rns.length → can s t k = true → t.evs.length < 40000 → bad s t k = 0 → P (step s t k)) : ∀ f t,P t → Good s t → 40001 ≤ f + t.evs.length →
  ((run s picks f t).2.1 = 0 ∧ ((run s picks f t).1 = 1 ∨ (run s picks f t).1 = 2 ∨ (run s picks f t).1 = 4) ∧ P (run s picks f t).2.2 ∧ Good s (run s picks f t).2.2) ∨
  ∃ t1 k,P t1 ∧ Good s t1 ∧ k < t1.rns.length ∧ can s t1 k = true ∧ bad s t1 k ≠ 0 ∧ t1.evs.length < 40000 ∧ run s picks f t = (3,bad s t1 k,step s t1 k)
 | 0,t,_,hg,hf => by have:=hg.el;omega
 | f + 1,t,hp,hg,hf => by
  rw [run];by_cases h : fin s t = 0
  ·rw [if_neg (by simp [h])]
   obtain ⟨h1,h2⟩:=turn_ok (picks:=picks) h
   have h3:=fin_len h
   by_cases hb : bad s t (turn s picks t) = 0
   ·rw [if_neg (by simp [hb])]
    exact run_all ho hn picks P hP f _ (hP t _ hp hg h1 h2 h3 hb) (good_step ho hn hg h1 h2 h3) (by rw [step_evs];simp;omega)
   ·rw [if_pos hb]
    exact .inr ⟨t,_,hp,hg,h1,h2,hb,h3,rfl⟩
  ·rw [if_pos h]
   left
   refine ⟨rfl,?_,hp,hg⟩
   show fin s t = 1 ∨ fin s t = 2 ∨ fin s t = 4
   unfold fin at h ⊢
   split
   ·exact .inl rfl
   ·split
    ·exact .inr (.inr rfl)
    ·split
     ·exact .inr (.inl rfl)
     ·rename_i h1 h2 h3
      rw [if_neg h1,if_neg h2,if_neg h3] at h;exact absurd rfl h
end Mc
end Go.Proofs.Ytfbnakmmmphedaa
