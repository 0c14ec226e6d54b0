/-
 What a run of the machine tells is a trace, as plain mathematics.
-/
import Derived.Test.YtfbnakmmmphedaaRunso
import Derived.Test.YtfbnakmmmphedaaTrAo
set_option linter.unusedVariables false
set_option linter.unusedSimpArgs false
namespace Go.Proofs.Ytfbnakmmmphedaa
open List renaming getD_eq_getElem?_getD → gDQ
open Go
namespace Tr
open Mc
theorem Gd_snoc {s : Syst} {l : List Ev} {e : Ev} (h : Gd s l l.length) (hf : FitE s l e) : Gd s (l ++ [e]) (l ++ [e]).length:=by
 intro j hj
 simp only [List.length_append,List.length_cons,List.length_nil] at hj
 by_cases h1 : j < l.length
 ·have h2:=h j h1
  rw [List.take_append_of_le_length (by omega),gDQ,List.getElem?_append_left h1,← gDQ]
  exact h2
 ·obtain rfl : j = l.length:=by omega
  rw [List.take_append_of_le_length (Nat.le_refl _),List.take_length,gDQ,List.getElem?_append_right (Nat.le_refl _),Nat.sub_self];exact hf
structure Tl (s : Syst) (t : St) : Prop where
 g : Gd s t.evs t.evs.length
 r : rnC t.evs = t.rns.length
 q : ∀ c : Nat,c < s.rooms.length → tkC t.evs c + (t.held.getD c []).length = snC t.evs c
 c : ∀ c : Nat,c < s.rooms.length → clC t.evs c = t.shut.getD c false
 l : ∀ k : Nat,(k : Int) < s.locks → (hdC t.evs k = none ↔ t.locked.getD k false = false)
theorem tl_first {s : Syst} (h : Ok s) : Tl s (first s):=by
 refine ⟨fun j hj => by simp [first] at hj,rfl,fun c hc => ?_,fun c hc => ?_,fun k hk => ?_⟩
 ·show 0 + (((first s).held.getD c []).length) = 0
  simp only [first]
  rw [getD_map0];rfl
 ·show false = _
  simp only [first]
  rw [getD_map0]
 ·refine ⟨fun _ => ?_,fun _ => rfl⟩
  simp only [first]
  rw [getD_rep]
theorem act_a {s : Syst} {t : St} {k : Nat} (h : 5 ≤ (ins s t k).op ∧ (ins s t k).op ≤ 15) (h2 : (ins s t k).op ≠ 12 ∧ (ins s t k).op ≠ 13) : (act s t k).a = (ins s t k).a:=by
 unfold act
 split
 ·unfold chan
  repeat' split
  all_goals rfl
 ·rw [if_pos (by omega)]
  unfold shar;rw [if_neg (show ¬ (ins s t k).op = 12 from h2.1),if_neg (show ¬ (ins s t k).op = 13 from h2.2)];repeat' split
  all_goals rfl
theorem act_c {s : Syst} {t : St} {k : Nat} (h : (ins s t k).op = 12 ∨ (ins s t k).op = 13) : (act s t k).a = cel s t k:=by
 unfold act
 rw [if_neg (by omega),if_pos (by omega)]
 unfold shar
 rw [if_neg (by omega),if_neg (by omega),if_neg (by omega)]
 split
 ·rfl
 ·rw [if_pos (by omega)]
theorem act14 {s : Syst} {t : St} {k : Nat} (h : (ins s t k).op = 14) : act s t k = if 512 ≤ t.rns.length then ⟨(ins s t k).a,0,false,135,t⟩ else ⟨(ins s t k).a,t.rns.length,false,0,{ t with rns:=t.rns ++ [⟨(ins s t k).a,0,(rn t k).regs,(pg s (ins s t k).a).isEmpty⟩] }⟩:=by
 unfold act
 rw [if_neg (by omega),if_pos (by omega)]
 unfold shar
 rw [if_neg (by omega),if_neg (by omega),if_neg (by omega),if_neg (by omega),if_neg (by omega),if_pos h]
theorem act6 {s : Syst} {t : St} {k : Nat} (h : (ins s t k).op = 6) : act s t k = chan s t k:=by
 unfold act
 rw [if_pos (by omega)]
theorem tl_fit {s : Syst} {t : St} {k : Nat} (ho : Ok s) (hp : Tl s t) (h : Good s t) (hk : k < t.rns.length) (hc : can s t k = true) : FitE s t.evs (Mc.ev s t k):=by
 have he:=can_going hc
 have hr:=ins_right ho h hk he
 have hop : (Mc.ev s t k).op = (ins s t k).op:=rfl
 have ha : (Mc.ev s t k).a = (act s t k).a:=rfl
 refine ⟨⟨by show (0 : Int) ≤ (k : Int);omega,by rw [hp.r];show (k : Int) < _;omega,hr.1,hr.2.1,fun m hm => ?_⟩,fun h14 => ?_,fun h6 hsh => ?_,fun h6 hsh => ?_,fun h8 => ?_⟩
 ·rw [hop] at hm
  rw [ha];obtain ⟨_,_,h3,h4,h5,h6⟩:=hr
  unfold mnC at hm;split at hm
  ·rename_i h1
   injection hm with hm
   subst hm;rw [act_a (by omega) (by omega)];rcases h1 with h1 | h1 | h1 <;> (rw [h1] at h3;exact fit_c (show fitM s _ 99 _ from h3))
  split at hm
  ·rename_i h1
   injection hm with hm
   subst hm;rw [act_a (by omega) (by omega)];rcases h1 with h1 | h1 <;> (rw [h1] at h3;exact fit_l (show fitM s _ 108 _ from h3))
  split at hm
  ·rename_i h1
   injection hm with hm
   subst hm;rw [act_a (by omega) (by omega)];rcases h1 with h1 | h1 <;> (rw [h1] at h3;exact fit_g (show fitM s _ 103 _ from h3))
  split at hm
  ·rename_i h1
   injection hm with hm
   subst hm;rw [act_c h1];have hcp:=h6 h1
   have hcl:=h.cl
   unfold cel Mc.rest
   exact ⟨Int.emod_nonneg _ (by omega),by rw [← hcl];exact Int.emod_lt_of_pos _ (by omega)⟩
  split at hm
  ·rename_i h1
   injection hm with hm
   subst hm;rw [act_a (by omega) (by omega)];rw [h1] at h3;exact fit_s (show fitM s _ 115 _ from h3)
  ·cases hm
 ·rw [hop] at h14
  have hv : (Mc.ev s t k).value = (act s t k).v:=rfl
  rw [hv,act14 h14,hp.r];split
  ·exact .inl rfl
  ·exact .inr ⟨rfl,by omega⟩
 ·rw [hop] at h6
  have hsv : (Mc.ev s t k).shut = (act s t k).sh:=rfl
  rw [hsv,act6 h6] at hsh;rw [ha,act6 h6];obtain ⟨_,_,h3,_⟩:=hr
  rw [h6] at h3;have h3:=fit_c (show fitM s _ 99 _ from h3)
  by_cases hem : t.held.getD (ins s t k).a.toNat [] = []
  ·rw [chan6e h6 hem] at hsh;cases hsh
  ·rw [chan6 h6 hem]
   have hl:=List.length_pos_iff.2 hem
   have:=hp.q (ins s t k).a.toNat (by omega)
   rw [show (((ins s t k).a.toNat : Nat) : Int) = (ins s t k).a by omega] at this
   show tkC t.evs (ins s t k).a < snC t.evs (ins s t k).a
   omega
 ·rw [hop] at h6
  have hsv : (Mc.ev s t k).shut = (act s t k).sh:=rfl
  rw [hsv,act6 h6] at hsh;rw [ha,act6 h6];obtain ⟨_,_,h3,_⟩:=hr
  rw [h6] at h3;have h3:=fit_c (show fitM s _ 99 _ from h3)
  by_cases hem : t.held.getD (ins s t k).a.toNat [] = []
  ·rw [chan6e h6 hem]
   have:=hp.c (ins s t k).a.toNat (by omega)
   rw [show (((ins s t k).a.toNat : Nat) : Int) = (ins s t k).a by omega] at this
   show clC t.evs (ins s t k).a = true
   rw [this];unfold can at hc;rw [he,h6,hem] at hc;simpa using hc
  ·rw [chan6 h6 hem] at hsh;cases hsh
 ·rw [hop] at h8
  rw [ha,act_a (by omega) (by omega)]
  obtain ⟨_,_,h3,_⟩:=hr
  rw [h8] at h3;have h3:=fit_l (show fitM s _ 108 _ from h3)
  have:=hp.l (ins s t k).a.toNat (by omega)
  rw [show (((ins s t k).a.toNat : Nat) : Int) = (ins s t k).a by omega] at this
  rw [this];unfold can at hc;rw [he,h8] at hc;simpa using hc
theorem on_len (s : Syst) (rs : List Rn) (k : Nat) : (Mc.on s rs k).length = rs.length:=by
 unfold Mc.on
 exact List.length_set
theorem act_rn (s : Syst) (t : St) (k : Nat) (hk : k < t.rns.length) (hb : (act s t k).er = 0) : (act s t k).st.rns.length = t.rns.length + (if (ins s t k).op = 14 ∧ (act s t k).v ≠ 0 then 1 else 0):=by
 by_cases h14 : (ins s t k).op = 14
 ·rw [act14 h14] at hb ⊢
  split at hb
  ·cases hb
  ·rename_i h5
   rw [if_neg h5];rw [if_pos ⟨h14,by show (t.rns.length : Int) ≠ 0;omega⟩];simp
 ·rw [if_neg (fun h => h14 h.1),Nat.add_zero]
  unfold act;split
  ·unfold chan
   repeat' split
   all_goals simp [setR,setP]
  ·split
   ·unfold shar
    rw [if_neg h14];repeat' split
    all_goals simp [setR,setP]
   ·exact own_len s t k
theorem tl_step {s : Syst} {t : St} {k : Nat} (ho : Ok s) (hp : Tl s t) (h : Good s t) (hk : k < t.rns.length) (hc : can s t k = true) (hb : bad s t k = 0) : Tl s (Mc.step s t k):=by
 have hf:=tl_fit ho hp h hk hc
 have hev:=step_evs s t k
 have hop : (Mc.ev s t k).op = (ins s t k).op:=rfl
 have hv : (Mc.ev s t k).value = (act s t k).v:=rfl
 refine ⟨?_,?_,fun c hcl => ?_,fun c hcl => ?_,fun j hj => ?_⟩
 ·rw [hev]
  exact Gd_snoc hp.g hf
 ·rw [hev,rnC_snoc,hp.r,hop,hv]
  have : (Mc.step s t k).rns.length = (act s t k).st.rns.length:=by
   unfold Mc.step
   rw [if_neg (by simp [hb])]
   exact on_len s _ k
  rw [this,act_rn s t k hk hb]
 ·have h1:=step_ch ho h hk hc hb c hcl
  have hq:=hp.q c hcl
  rw [hev,tkC_snoc,snC_snoc];generalize Mc.ev s t k = e at *;generalize (Mc.step s t k).held.getD c [] = hd' at *;generalize (Mc.step s t k).shut.getD c false = sh' at *;generalize t.held.getD c [] = hd at *;generalize t.shut.getD c false = sh at *;clear hf hev hop hv;unfold ch1 at h1;dsimp only at h1
  split at h1
  ·rename_i ha
   injection h1 with h1
   injection h1 with h1 h2
   subst h1;rw [if_neg (fun x => ha x.2.2),if_neg (fun x => ha x.2)];exact hq
  ·rename_i ha
   have ha : e.a = (c : Int):=by omega
   split at h1
   ·rename_i h5
    split at h1
    ·cases h1
    ·injection h1 with h1
     injection h1 with h1 h2
     subst h1;rw [if_neg (fun x => by omega),if_pos ⟨h5,ha⟩];simp
     omega
   ·rename_i h5
    split at h1
    ·rename_i h7
     split at h1
     ·cases h1
     ·injection h1 with h1
      injection h1 with h1 h2
      subst h1;rw [if_neg (fun x => by omega),if_neg (fun x => by omega)];exact hq
    ·rename_i h7
     split at h1
     ·rename_i h6
      split at h1
      ·rename_i hs
       split at h1
       ·cases h1
       ·injection h1 with h1
        injection h1 with h1 h2
        subst h1;rw [if_neg (fun x => by rw [hs] at x;cases x.2.1),if_neg (fun x => by omega)]
        exact hq
      ·rename_i hs
       split at h1
       ·cases h1
       ·rename_i hn
        injection h1 with h1
        injection h1 with h1 h2
        subst h1;rw [if_pos ⟨h6,by simpa using hs,ha⟩,if_neg (fun x => by omega)];have hx:=List.length_pos_iff.2 (fun x => hn (.inl x))
        rw [List.length_tail];omega
     ·rename_i h6
      injection h1 with h1
      injection h1 with h1 h2
      subst h1;rw [if_neg (fun x => h6 x.1),if_neg (fun x => h5 x.1)];exact hq
 ·have h1:=step_ch ho h hk hc hb c hcl
  have hq:=hp.c c hcl
  rw [hev,clC_snoc,hq];generalize Mc.ev s t k = e at *;generalize (Mc.step s t k).held.getD c [] = hd' at *;generalize (Mc.step s t k).shut.getD c false = sh' at *;generalize t.held.getD c [] = hd at *;generalize t.shut.getD c false = sh at *;clear hf hev hop hv;unfold ch1 at h1;dsimp only at h1
  split at h1
  ·rename_i ha
   injection h1 with h1
   injection h1 with h1 h2
   subst h2;rw [decide_eq_false (fun x => ha x.2),Bool.or_false]
  ·rename_i ha
   have ha : e.a = (c : Int):=by omega
   split at h1
   ·rename_i h5
    split at h1
    ·cases h1
    ·injection h1 with h1
     injection h1 with h1 h2
     subst h2;rw [decide_eq_false (fun x => by omega),Bool.or_false]
   ·split at h1
    ·rename_i h7
     split at h1
     ·cases h1
     ·injection h1 with h1
      injection h1 with h1 h2
      subst h2;rw [decide_eq_true ⟨h7,ha⟩,Bool.or_true]
    ·rename_i h7
     have hx : sh' = sh:=by
      split at h1
      ·split at h1
       ·split at h1
        ·cases h1
        ·injection h1 with h1
         injection h1 with h1 h2
         exact h2.symm
       ·split at h1
        ·cases h1
        ·injection h1 with h1
         injection h1 with h1 h2
         exact h2.symm
      ·injection h1 with h1
       injection h1 with h1 h2
       exact h2.symm
     subst hx;rw [decide_eq_false (fun x => h7 x.1),Bool.or_false]
 ·have h1:=step_lk ho h hk hc hb
  have hq:=hp.l j hj
  have hll:=h.ll
  rw [hev,hdC_snoc];have hwho : (Mc.ev s t k).who = (k : Int):=rfl
  generalize Mc.ev s t k = e at *;generalize (Mc.step s t k).locked = lo' at *;generalize (Mc.step s t k).groups = gr' at *;clear hf hev hop hv;unfold hdS;unfold lk1 at h1;dsimp only at h1
  split at h1
  ·cases h1
  ·rename_i hbd
   split at h1
   ·rename_i h8
    split at h1
    ·cases h1
    ·rename_i hfr
     injection h1 with h1
     injection h1 with h1 h2
     subst h1;have hat : 0 ≤ e.a ∧ e.a < s.locks:=by
      by_cases hx : 0 ≤ e.a ∧ e.a < s.locks
      ·exact hx
      ·exact absurd (.inl ⟨.inl h8,by omega⟩) hbd
     by_cases haj : e.a = (j : Int)
     ·rw [if_pos ⟨h8,haj⟩,haj,Int.toNat_natCast,getD_set_eq _ _ _ (by omega)]
      simp
     ·rw [if_neg (fun x => haj x.2),if_neg (fun x => haj x.2),getD_set_ne _ _ _ (by omega)]
      exact hq
   ·rename_i h8
    split at h1
    ·rename_i h9
     split at h1
     ·cases h1
     ·injection h1 with h1
      injection h1 with h1 h2
      subst h1;have hat : 0 ≤ e.a ∧ e.a < s.locks:=by
       by_cases hx : 0 ≤ e.a ∧ e.a < s.locks
       ·exact hx
       ·exact absurd (.inl ⟨.inr h9,by omega⟩) hbd
      rw [if_neg (fun x => h8 x.1)]
      by_cases haj : e.a = (j : Int)
      ·rw [if_pos ⟨h9,haj⟩,haj,Int.toNat_natCast,getD_set_eq _ _ _ (by omega)]
       simp
      ·rw [if_neg (fun x => haj x.2),getD_set_ne _ _ _ (by omega)]
       exact hq
    ·rename_i h9
     rw [if_neg (fun x => h8 x.1),if_neg (fun x => h9 x.1)]
     have hx : lo' = t.locked:=by
      split at h1
      ·split at h1
       ·cases h1
       ·injection h1 with h1
        injection h1 with h1 h2
        exact h1.symm
      ·split at h1
       ·split at h1
        ·cases h1
        ·injection h1 with h1
         injection h1 with h1 h2
         exact h1.symm
       ·injection h1 with h1
        injection h1 with h1 h2
        exact h1.symm
     rw [hx];exact hq
theorem play_trace {s : Syst} (ho : Ok s) (hn : Nm s) (picks : List Int) : Gd s (play s picks).2.2.evs (play s picks).2.2.evs.length ∧ rnC (play s picks).2.2.evs = (play s picks).2.2.rns.length ∧ (play s picks).2.2.evs.length ≤ 40000:=by
 rcases run_all ho hn picks (Tl s) (fun t k hp h hk hc _ hb => tl_step ho hp h hk hc hb) 40001 (first s) (tl_first ho) (good_first ho) (by simp [first]) with ⟨_,_,hp,hg⟩ | ⟨t1,k,hp,hg,hk,hc,hb,hl,he⟩
 ·exact ⟨hp.g,hp.r,hg.el⟩
 ·have he : play s picks = (3,bad s t1 k,Mc.step s t1 k):=he
  rw [he];have hev : (Mc.step s t1 k).evs = t1.evs ++ [Mc.ev s t1 k]:=step_evs s t1 k
  have hf:=tl_fit ho hp hg hk hc
  refine ⟨?_,?_,?_⟩
  ·show Gd s (Mc.step s t1 k).evs (Mc.step s t1 k).evs.length
   rw [hev];exact Gd_snoc hp.g hf
  ·show rnC (Mc.step s t1 k).evs = (Mc.step s t1 k).rns.length
   have hr : (Mc.step s t1 k).rns = t1.rns:=by
    unfold Mc.step
    rw [if_pos hb]
   rw [hev,rnC_snoc,hp.r,hr,if_neg]
   ·rfl
   rintro ⟨h14,hv⟩
   have h14 : (ins s t1 k).op = 14:=h14
   have hv : (act s t1 k).v ≠ 0:=hv
   unfold bad at hb;rw [act14 h14] at hb hv;split at hb
   ·rename_i h5
    rw [if_pos h5] at hv;exact hv rfl
   ·exact hb rfl
  ·show (Mc.step s t1 k).evs.length ≤ 40000
   rw [hev];simp
   omega
end Tr
end Go.Proofs.Ytfbnakmmmphedaa
