/-
 The numbers of a run's events are numbers of 64 bits; a run's events as they are asked.
-/
import Derived.Test.YtfbnakmmmphedaaPlTo
import Derived.Test.YtfbnakmmmphedaaErTo
import Derived.Test.YtfbnakmmmphedaaPgKo
set_option linter.unusedVariables false
set_option linter.unusedSimpArgs false
namespace Go.Proofs.Ytfbnakmmmphedaa
open Go Go.RowKit
namespace LW
open Mc
theorem cel_i64 {s : Syst} {t : St} {k : Nat} (ho : Ok s) (h : Mc.Good s t) (hk : k < t.rns.length) : i64 (cel s t k):=by
 have hr:=reg_i64 h hk (ins s t k).a
 have hcl:=h.cl
 have hc1:=ho.c1
 unfold cel Mc.rest
 by_cases h0 : (t.cells.length : Int) = 0
 ·rw [h0,Int.emod_zero]
  exact hr
 ·have h1:=Int.emod_nonneg (reg t k (ins s t k).a) h0
  have h2:=Int.emod_lt_of_pos (reg t k (ins s t k).a) (show (0 : Int) < (t.cells.length : Int) by omega)
  unfold i64;omega
theorem act_i64 {s : Syst} {t : St} {k : Nat} (ho : Ok s) (hN : ∀ p j,iIns ((s.progs.getD p []).getD j i0)) (h : Mc.Good s t) (hk : k < t.rns.length) : i64 (act s t k).a ∧ i64 (act s t k).v:=by
 have ha : i64 (ins s t k).a:=(hN _ _).2.1
 have hb : i64 (ins s t k).b:=(hN _ _).2.2.1
 have hr : ∀ r,i64 (reg t k r):=fun r => reg_i64 h hk r
 have hv : ∀ c,i64 ((t.held.getD c []).headD 0):=fun c => by rw [headD_getD];exact h.hv c 0
 have hg : i64 (grp s t k):=by unfold grp;exact i64_wrap _
 have hc:=cel_i64 ho h hk
 have hcv:=h.cv
 have hl : i64 (t.rns.length : Int):=by have:=h.r2;unfold i64;omega
 unfold act
 split
 ·unfold chan
  repeat' split
  all_goals first | exact ⟨ha,hr _⟩ | exact ⟨ha,hv _⟩ | exact ⟨ha,i64_0⟩
 ·split
  ·unfold shar
   repeat' split
   all_goals first | exact ⟨ha,i64_0⟩ | exact ⟨ha,hg⟩ | exact ⟨hc,hcv _⟩ | exact ⟨hc,hr _⟩ | exact ⟨ha,hl⟩ | exact ⟨ha,hr _⟩
  ·exact ⟨i64_0,i64_0⟩
theorem ev_i64 {s : Syst} {t : St} {k : Nat} (ho : Ok s) (hN : ∀ p j,iIns ((s.progs.getD p []).getD j i0)) (h : Mc.Good s t) (hk : k < t.rns.length) (hc : can s t k = true) : iEv (Mc.ev s t k):=by
 have h1:=act_i64 ho hN h hk
 have hr:=ins_right ho h hk (can_going hc)
 have h2:=h.r2
 refine ⟨?_,?_,h1.1,h1.2⟩
 ·show i64 (k : Int)
  unfold i64;omega
 ·show i64 (ins s t k).op
  have:=hr.1;have:=hr.2.1
  unfold i64;omega
theorem ie_snoc {l : List Ev} {e : Ev} (h : ∀ x,x ∈ l → iEv x) (he : iEv e) : ∀ x,x ∈ l ++ [e] → iEv x:=fun x hx => by
 rcases List.mem_append.1 hx with h1 | h1
 ·exact h x h1
 ·rw [List.mem_singleton.1 h1];exact he
theorem play_ie {s : Syst} (ho : Ok s) (hN : ∀ p j,iIns ((s.progs.getD p []).getD j i0)) (hn : Nm s) (picks : List Int) : ∀ j,iEv (Tr.ev (play s picks).2.2.evs j):=by
 have key : ∀ x,x ∈ (play s picks).2.2.evs → iEv x:=by
  rcases run_all ho hn picks (fun t => ∀ x,x ∈ t.evs → iEv x) (fun t k hp h hk hc _ hb => by
   rw [step_evs];exact ie_snoc hp (ev_i64 ho hN h hk hc)) 40001 (first s) (fun x hx => by simp [first] at hx) (good_first ho) (by simp [first]) with ⟨_,_,hp,_⟩ | ⟨t1,k,hp,hg,hk,hc,hb,hl,he⟩
  ·exact hp
  ·have he : play s picks = (3,bad s t1 k,Mc.step s t1 k):=he
   rw [he];show ∀ x,x ∈ (Mc.step s t1 k).evs → iEv x
   rw [step_evs];exact ie_snoc hp (ev_i64 ho hN hg hk hc)
 intro j
 unfold Tr.ev
 rw [List.getD_eq_getElem?_getD]
 rcases h : (play s picks).2.2.evs[j]? with _ | x
 ·exact iEv_0
 ·exact key x (List.mem_of_getElem? h)
end LW
end Go.Proofs.Ytfbnakmmmphedaa
