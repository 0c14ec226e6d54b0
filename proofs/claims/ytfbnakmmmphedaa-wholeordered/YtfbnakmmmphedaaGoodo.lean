/-
 Which systems may be, and what then holds of every state of a run: all places, registers and numbers are there.
-/
import Derived.Test.YtfbnakmmmphedaaMacho
set_option linter.unusedVariables false
set_option linter.unusedSimpArgs false
namespace Go.Proofs.Ytfbnakmmmphedaa
open List renaming getD_eq_getElem?_getD → gDQ
open Go
namespace Mc
def fl : List (List Int):=[[],[114,120,110],[114,114,110],[114,114,112],[110,110,112],[99,114,110],[99,114,112],[99,110,110],[108,110,110],[108,110,110],[103,120,110],[103,110,110],[114,114,110],[114,114,110],[115,110,110],[120,114,110],[110,110,110]]
def fdM (op : Int) : List Int:=if op < 1 ∨ 17 ≤ op then [] else fl.getD op.toNat []
def bdM (s : Syst) (p : Nat) (c : Int) : Int :=
 if c = 114 then 8 else if c = 112 then ((s.progs.getD p []).length : Int) + 1 else if c = 99 then s.rooms.length else if c = 108 then s.locks else if c = 103 then s.groups else if c = 115 then s.progs.length else 1
def fitM (s : Syst) (p : Nat) (c v : Int) : Prop:=c = 120 ∨ (0 ≤ v ∧ v < bdM s p c)
def rightM (s : Syst) (p : Nat) (i : Ins) : Prop:=1 ≤ i.op ∧ i.op ≤ 16 ∧ fitM s p ((fdM i.op).getD 0 0) i.a ∧ fitM s p ((fdM i.op).getD 1 0) i.b ∧ fitM s p ((fdM i.op).getD 2 0) i.c ∧ ((i.op = 12 ∨ i.op = 13) → 0 < s.cells)
structure Ok (s : Syst) : Prop where
 p1 : 1 ≤ s.progs.length
 p2 : s.progs.length ≤ 64
 r1 : s.rooms.length ≤ 64
 g1 : 0 ≤ s.groups ∧ s.groups ≤ 64
 l1 : 0 ≤ s.locks ∧ s.locks ≤ 64
 c1 : 0 ≤ s.cells ∧ s.cells ≤ 64
 rm : ∀ i,i < s.rooms.length → 1 ≤ s.rooms.getD i 0 ∧ s.rooms.getD i 0 ≤ 1024
 pl : ∀ p,p < s.progs.length → (s.progs.getD p []).length ≤ 256
 rt : ∀ p,p < s.progs.length → ∀ j,j < (s.progs.getD p []).length → rightM s p ((s.progs.getD p []).getD j i0)
def i64 (x : Int) : Prop:=-9223372036854775808 ≤ x ∧ x ≤ 9223372036854775807
structure GR (s : Syst) (r : Rn) : Prop where
 pr : 0 ≤ r.prog ∧ r.prog < s.progs.length
 rl : r.regs.length = 8
 rg : ∀ j,i64 (r.regs.getD j 0)
 ps : r.ended = false → 0 ≤ r.pos ∧ r.pos < (pg s r.prog).length
 pb : 0 ≤ r.pos ∧ r.pos ≤ (pg s r.prog).length
structure Good (s : Syst) (t : St) : Prop where
 r1 : 1 ≤ t.rns.length
 r2 : t.rns.length ≤ 512
 gr : ∀ k,k < t.rns.length → GR s (rn t k)
 hl : t.held.length = s.rooms.length
 hv : ∀ c j,i64 ((t.held.getD c []).getD j 0)
 hr : ∀ c,c < s.rooms.length → ((t.held.getD c []).length : Int) ≤ s.rooms.getD c 0
 sl : t.shut.length = s.rooms.length
 ll : (t.locked.length : Int) = s.locks
 gl : (t.groups.length : Int) = s.groups
 gv : ∀ j,0 ≤ t.groups.getD j 0 ∧ t.groups.getD j 0 ≤ 9223372036854775807
 cl : (t.cells.length : Int) = s.cells
 cv : ∀ j,i64 (t.cells.getD j 0)
 el : t.evs.length ≤ 40000
theorem i64_0 : i64 0:=by unfold i64;omega
theorem i64_wrap (x : Int) : i64 (IntKind.i64.wrap x):=by
 unfold i64
 rw [IntKind.wrap_i64]
 omega
theorem getD_rep {α : Type} (n j : Nat) (x : α) : (List.replicate n x).getD j x = x:=by
 rw [gDQ,List.getElem?_replicate]
 split <;> rfl
theorem getD_map0 {α β : Type} (l : List α) (j : Nat) (x : β) : (l.map (fun _ => x)).getD j x = x:=by
 rw [gDQ,List.getElem?_map]
 cases l[j]? <;> rfl
theorem good_first {s : Syst} (h : Ok s) : Good s (first s):=by
 refine ⟨by simp [first],by simp [first],fun k hk => ?_,by simp [first],fun c j => ?_,fun c hc => ?_,by simp [first],?_,?_,fun j => ?_,?_,fun j => ?_,by simp [first]⟩
 ·obtain rfl : k = 0:=by simp [first] at hk;omega
  have:=h.p1
  refine ⟨⟨by simp [rn,first],by simp [rn,first];omega⟩,by simp [rn,first],fun j => by simp only [rn,first,List.getD_cons_zero];rw [getD_rep];exact i64_0,fun he => ?_,by simp [rn,first]⟩
  simp [rn,first] at he
  refine ⟨by simp [rn,first],?_⟩
  simp only [rn,first,List.getD_cons_zero]
  have:=List.length_pos_iff.2 he
  omega
 ·simp only [first];rw [getD_map0];simpa using i64_0
 ·simp only [first];rw [getD_map0];have:=h.rm c hc;exact Int.le_trans (Int.le_of_eq (by simp : (([] : List Int).length : Int) = 0)) (by omega)
 ·have:=h.l1;simp [first];omega
 ·have:=h.g1;simp [first];omega
 ·simp only [first];rw [getD_rep];omega
 ·have:=h.c1;simp [first];omega
 ·simp only [first];rw [getD_rep];exact i64_0
def Nm (s : Syst) : Prop:=∀ p j,i64 ((s.progs.getD p []).getD j i0).b
theorem getD_set {α : Type} (l : List α) (i j : Nat) (v d : α) : (l.set i v).getD j d = if i = j ∧ i < l.length then v else l.getD j d:=by
 rw [gDQ,gDQ,List.getElem?_set]
 by_cases h : i = j
 ·subst h
  by_cases h2 : i < l.length
  ·simp [h2]
  ·simp [h2]
 ·simp [h]
theorem rn_set (t : St) (k j : Nat) (r : Rn) (hk : k < t.rns.length) : (t.rns.set k r).getD j r0 = if k = j then r else rn t j:=by
 rw [getD_set]
 by_cases h : k = j
 ·rw [if_pos ⟨h,hk⟩,if_pos h]
 ·rw [if_neg (fun hh => h hh.1),if_neg h];rfl
structure MR (s : Syst) (r : Rn) : Prop where
 pr : 0 ≤ r.prog ∧ r.prog < s.progs.length
 rl : r.regs.length = 8
 rg : ∀ j,i64 (r.regs.getD j 0)
 pb : 0 ≤ r.pos + 1 ∧ r.pos + 1 ≤ (pg s r.prog).length
structure Rs (s : Syst) (rs : List Rn) (k : Nat) : Prop where
 k1 : k < rs.length
 k2 : rs.length ≤ 512
 me : MR s (rs.getD k r0)
 ot : ∀ j,j < rs.length → j ≠ k → GR s (rs.getD j r0)
theorem Rs.on {s : Syst} {rs : List Rn} {k : Nat} (h : Rs s rs k) : ∀ j,j < (on s rs k).length → GR s ((on s rs k).getD j r0):=by
 intro j hj
 unfold Mc.on at hj ⊢
 rw [List.length_set] at hj
 rw [getD_set]
 by_cases hjk : k = j
 ·subst hjk
  rw [if_pos ⟨rfl,h.k1⟩];have hm:=h.me
  refine ⟨hm.pr,hm.rl,hm.rg,fun he => ?_,hm.pb⟩
  have hp:=hm.pb
  simp only [Bool.or_eq_false_iff,decide_eq_false_iff_not] at he
  exact ⟨hp.1,by have:=he.2;show _ + 1 < ((pg s (rs.getD k r0).prog).length : Int);omega⟩
 ·rw [if_neg (fun hh => hjk hh.1)]
  exact h.ot j hj (fun e => hjk e.symm)
theorem Rs.refl {s : Syst} {t : St} {k : Nat} (h : Good s t) (hk : k < t.rns.length) (he : (rn t k).ended = false) : Rs s t.rns k :=
 ⟨hk,h.r2,⟨(h.gr k hk).pr,(h.gr k hk).rl,(h.gr k hk).rg,by have:=(h.gr k hk).ps he;show 0 ≤ (rn t k).pos + 1 ∧ _;constructor;omega;show (rn t k).pos + 1 ≤ _;exact Int.add_one_le_of_lt this.2⟩,fun j hj _ => h.gr j hj⟩
theorem Rs.setR {s : Syst} {t : St} {k : Nat} (h : Good s t) (hk : k < t.rns.length) (he : (rn t k).ended = false) (r v : Int) (hv : i64 v) : Rs s (setR t k r v) k:=by
 have h0:=Rs.refl h hk he
 unfold Mc.setR
 refine ⟨by rw [List.length_set];exact hk,by rw [List.length_set];exact h.r2,?_,fun j hj hjk => ?_⟩
 ·rw [rn_set t k k _ hk,if_pos rfl]
  refine ⟨h0.me.pr,by rw [List.length_set];exact h0.me.rl,fun j => ?_,h0.me.pb⟩
  dsimp only
  rw [getD_set];split
  ·exact hv
  ·exact h0.me.rg j
 ·rw [rn_set t k j _ hk,if_neg (fun e => hjk e.symm)]
  rw [List.length_set] at hj;exact h0.ot j hj hjk
theorem Rs.setP {s : Syst} {t : St} {k : Nat} (h : Good s t) (hk : k < t.rns.length) (he : (rn t k).ended = false) (p : Int) (hp : 0 ≤ p + 1 ∧ p + 1 ≤ (pg s (rn t k).prog).length) : Rs s (setP t k p) k:=by
 have h0:=Rs.refl h hk he
 unfold Mc.setP
 refine ⟨by rw [List.length_set];exact hk,by rw [List.length_set];exact h.r2,?_,fun j hj hjk => ?_⟩
 ·rw [rn_set t k k _ hk,if_pos rfl]
  exact ⟨h0.me.pr,h0.me.rl,h0.me.rg,hp⟩
 ·rw [rn_set t k j _ hk,if_neg (fun e => hjk e.symm)]
  rw [List.length_set] at hj;exact h0.ot j hj hjk
theorem Rs.done {s : Syst} {t : St} {k : Nat} (h : Good s t) (hk : k < t.rns.length) (he : (rn t k).ended = false) : Rs s (t.rns.set k { rn t k with ended:=true }) k:=by
 have h0:=Rs.refl h hk he
 refine ⟨by rw [List.length_set];exact hk,by rw [List.length_set];exact h.r2,?_,fun j hj hjk => ?_⟩
 ·rw [rn_set t k k _ hk,if_pos rfl]
  exact ⟨h0.me.pr,h0.me.rl,h0.me.rg,h0.me.pb⟩
 ·rw [rn_set t k j _ hk,if_neg (fun e => hjk e.symm)]
  rw [List.length_set] at hj;exact h0.ot j hj hjk
theorem Rs.new {s : Syst} {t : St} {k : Nat} (h : Good s t) (hk : k < t.rns.length) (he : (rn t k).ended = false) (hl : t.rns.length < 512) (p : Int) (hp : 0 ≤ p ∧ p < s.progs.length) : Rs s (t.rns ++ [⟨p,0,(rn t k).regs,(pg s p).isEmpty⟩]) k:=by
 have h0:=Rs.refl h hk he
 have hg : ∀ j,j < t.rns.length → (t.rns ++ ([⟨p,0,(rn t k).regs,(pg s p).isEmpty⟩] : List Rn)).getD j r0 = t.rns.getD j r0:=fun j hj => by
  rw [gDQ,gDQ,List.getElem?_append_left hj]
 refine ⟨by simp;omega,by simp;omega,by rw [hg k hk];exact h0.me,fun j hj hjk => ?_⟩
 rcases Nat.lt_or_ge j t.rns.length with h1 | h1
 ·rw [hg j h1];exact h0.ot j h1 hjk
 ·obtain rfl : j = t.rns.length:=by simp at hj;omega
  rw [gDQ,List.getElem?_append_right (Nat.le_refl _),Nat.sub_self];show GR s ⟨p,0,(rn t k).regs,(pg s p).isEmpty⟩
  refine ⟨hp,h0.me.rl,h0.me.rg,fun hx => ?_,⟨by simp,by simp⟩⟩
  refine ⟨by simp,?_⟩
  have : pg s p ≠ []:=by simpa using hx
  have h9:=List.length_pos_iff.2 this
  show (0 : Int) < ((pg s p).length : Int)
  omega
theorem can_going {s : Syst} {t : St} {k : Nat} (h : can s t k = true) : (rn t k).ended = false:=by
 unfold can at h
 split at h
 ·cases h
 ·rename_i h1
  simpa using h1
theorem ins_right {s : Syst} {t : St} {k : Nat} (ho : Ok s) (h : Good s t) (hk : k < t.rns.length) (he : (rn t k).ended = false) : rightM s (rn t k).prog.toNat (ins s t k):=by
 have hg:=h.gr k hk
 have hp:=hg.pr
 have hps:=hg.ps he
 exact ho.rt _ (by omega) _ (by have : (pg s (rn t k).prog) = s.progs.getD (rn t k).prog.toNat []:=rfl;rw [this] at hps;omega)
theorem fit_r {s : Syst} {p : Nat} {v : Int} (h : fitM s p 114 v) : 0 ≤ v ∧ v < 8:=by
 rcases h with h | h
 ·cases h
 ·exact h
theorem fit_p {s : Syst} {p : Nat} {v : Int} (h : fitM s p 112 v) : 0 ≤ v ∧ v ≤ (s.progs.getD p []).length:=by
 rcases h with h | h
 ·cases h
 ·have h2 : bdM s p 112 = ((s.progs.getD p []).length : Int) + 1:=rfl
  rw [h2] at h;omega
theorem fit_c {s : Syst} {p : Nat} {v : Int} (h : fitM s p 99 v) : 0 ≤ v ∧ v < s.rooms.length:=by
 rcases h with h | h
 ·cases h
 ·exact h
theorem fit_l {s : Syst} {p : Nat} {v : Int} (h : fitM s p 108 v) : 0 ≤ v ∧ v < s.locks:=by
 rcases h with h | h
 ·cases h
 ·exact h
theorem fit_g {s : Syst} {p : Nat} {v : Int} (h : fitM s p 103 v) : 0 ≤ v ∧ v < s.groups:=by
 rcases h with h | h
 ·cases h
 ·exact h
theorem fit_s {s : Syst} {p : Nat} {v : Int} (h : fitM s p 115 v) : 0 ≤ v ∧ v < s.progs.length:=by
 rcases h with h | h
 ·cases h
 ·exact h
theorem reg_i64 {s : Syst} {t : St} {k : Nat} (h : Good s t) (hk : k < t.rns.length) (r : Int) : i64 (reg t k r):=(h.gr k hk).rg _
theorem pg_eq (s : Syst) (p : Int) : s.progs.getD p.toNat [] = pg s p:=rfl
theorem own_rs {s : Syst} {t : St} {k : Nat} (ho : Ok s) (hn : Nm s) (h : Good s t) (hk : k < t.rns.length) (he : (rn t k).ended = false) : Rs s (own s t k) k:=by
 have hr:=ins_right ho h hk he
 unfold own
 split
 ·exact Rs.setR h hk he _ _ (hn _ _)
 split
 ·exact Rs.setR h hk he _ _ (i64_wrap _)
 split
 ·rename_i h3
  obtain ⟨_,_,_,_,hc,_⟩:=hr
  rw [h3] at hc;have hc:=fit_p (show fitM s _ 112 _ from hc)
  rw [pg_eq] at hc;split
  ·exact Rs.setP h hk he _ (by omega)
  ·exact Rs.refl h hk he
 split
 ·rename_i h3
  obtain ⟨_,_,_,_,hc,_⟩:=hr
  rw [h3] at hc;have hc:=fit_p (show fitM s _ 112 _ from hc)
  rw [pg_eq] at hc;exact Rs.setP h hk he _ (by omega)
 split
 ·exact Rs.done h hk he
 ·exact Rs.refl h hk he
structure Sh (s : Syst) (held : List (List Int)) (shut locked : List Bool) (groups cells : List Int) : Prop where
 hl : held.length = s.rooms.length
 hv : ∀ c j,i64 ((held.getD c []).getD j 0)
 hr : ∀ c,c < s.rooms.length → ((held.getD c []).length : Int) ≤ s.rooms.getD c 0
 sl : shut.length = s.rooms.length
 ll : (locked.length : Int) = s.locks
 gl : (groups.length : Int) = s.groups
 gv : ∀ j,0 ≤ groups.getD j 0 ∧ groups.getD j 0 ≤ 9223372036854775807
 cl : (cells.length : Int) = s.cells
 cv : ∀ j,i64 (cells.getD j 0)
theorem Good.sh {s : Syst} {t : St} (h : Good s t) : Sh s t.held t.shut t.locked t.groups t.cells:=⟨h.hl,h.hv,h.hr,h.sl,h.ll,h.gl,h.gv,h.cl,h.cv⟩
def Mid (s : Syst) (k : Nat) (t : St) : Prop:=Rs s t.rns k ∧ Sh s t.held t.shut t.locked t.groups t.cells
theorem tail_getD (l : List Int) (j : Nat) : l.tail.getD j 0 = l.getD (j + 1) 0:=by
 cases l <;> simp
theorem headD_getD (l : List Int) : l.headD 0 = l.getD 0 0:=by
 cases l <;> simp
theorem chan_mid {s : Syst} {t : St} {k : Nat} (ho : Ok s) (h : Good s t) (hk : k < t.rns.length) (hc : can s t k = true) (h5 : 5 ≤ (ins s t k).op ∧ (ins s t k).op ≤ 7) : Mid s k (chan s t k).st:=by
 have he:=can_going hc
 have hr:=ins_right ho h hk he
 have h0:=Rs.refl h hk he
 have hsh:=h.sh
 unfold chan
 split
 ·rename_i h1
  split
  ·exact ⟨h0,hsh⟩
  ·rename_i h2
   obtain ⟨_,_,ha,_,_,_⟩:=hr
   rw [h1] at ha;have ha:=fit_c (show fitM s _ 99 _ from ha)
   unfold can at hc;rw [he,h1] at hc;simp only [Bool.false_eq_true,if_false,if_true] at hc
   have h2' : t.shut.getD (ins s t k).a.toNat false = false:=by simpa using h2
   rw [h2'] at hc;simp only [Bool.false_or,decide_eq_true_eq] at hc
   refine ⟨h0,⟨by rw [List.length_set];exact hsh.hl,fun c j => ?_,fun c hcl => ?_,hsh.sl,hsh.ll,hsh.gl,hsh.gv,hsh.cl,hsh.cv⟩⟩
   ·rw [getD_set]
    split
    ·rw [gDQ]
     rcases Nat.lt_or_ge j (t.held.getD (ins s t k).a.toNat []).length with hj | hj
     ·rw [List.getElem?_append_left hj,← gDQ];exact hsh.hv _ _
     ·rw [List.getElem?_append_right hj]
      rcases Nat.eq_zero_or_pos (j - (t.held.getD (ins s t k).a.toNat []).length) with hz | hz
      ·rw [hz];exact reg_i64 h hk _
      ·rw [List.getElem?_eq_none hz];exact i64_0
    ·exact hsh.hv _ _
   ·rw [getD_set]
    split
    ·rename_i hh
     rw [← hh.1];simp only [List.length_append,List.length_cons,List.length_nil]
     omega
    ·exact hsh.hr c hcl
 split
 ·rename_i h1
  obtain ⟨_,_,ha,_,hcc,_⟩:=hr
  rw [h1] at ha hcc;have ha:=fit_c (show fitM s _ 99 _ from ha)
  have hcc:=fit_p (show fitM s _ 112 _ from hcc)
  rw [pg_eq] at hcc;split
  ·exact ⟨Rs.setP h hk he _ (by omega),hsh⟩
  ·refine ⟨Rs.setR h hk he _ _ (by rw [headD_getD];exact hsh.hv _ _),⟨by rw [List.length_set];exact hsh.hl,fun c j => ?_,fun c hcl => ?_,hsh.sl,hsh.ll,hsh.gl,hsh.gv,hsh.cl,hsh.cv⟩⟩
   ·rw [getD_set]
    split
    ·rw [tail_getD];exact hsh.hv _ _
    ·exact hsh.hv _ _
   ·rw [getD_set]
    split
    ·rename_i hh
     rw [← hh.1];have:=hsh.hr (ins s t k).a.toNat (by omega)
     rw [List.length_tail];omega
    ·exact hsh.hr c hcl
 split
 ·exact ⟨h0,hsh⟩
 ·exact ⟨h0,⟨hsh.hl,hsh.hv,hsh.hr,by rw [List.length_set];exact hsh.sl,hsh.ll,hsh.gl,hsh.gv,hsh.cl,hsh.cv⟩⟩
theorem shar_mid {s : Syst} {t : St} {k : Nat} (ho : Ok s) (h : Good s t) (hk : k < t.rns.length) (hc : can s t k = true) (h8 : 8 ≤ (ins s t k).op ∧ (ins s t k).op ≤ 15) : Mid s k (shar s t k).st:=by
 have he:=can_going hc
 have hr:=ins_right ho h hk he
 have h0:=Rs.refl h hk he
 have hsh:=h.sh
 unfold shar
 split
 ·exact ⟨h0,⟨hsh.hl,hsh.hv,hsh.hr,hsh.sl,by rw [List.length_set];exact hsh.ll,hsh.gl,hsh.gv,hsh.cl,hsh.cv⟩⟩
 split
 ·split
  ·exact ⟨h0,⟨hsh.hl,hsh.hv,hsh.hr,hsh.sl,by rw [List.length_set];exact hsh.ll,hsh.gl,hsh.gv,hsh.cl,hsh.cv⟩⟩
  ·exact ⟨h0,hsh⟩
 split
 ·split
  ·exact ⟨h0,hsh⟩
  ·rename_i hg
   refine ⟨h0,⟨hsh.hl,hsh.hv,hsh.hr,hsh.sl,hsh.ll,by rw [List.length_set];exact hsh.gl,fun j => ?_,hsh.cl,hsh.cv⟩⟩
   rw [getD_set];split
   ·exact ⟨by omega,(i64_wrap _).2⟩
   ·exact hsh.gv j
 split
 ·exact ⟨Rs.setR h hk he _ _ (hsh.cv _),hsh⟩
 split
 ·refine ⟨h0,⟨hsh.hl,hsh.hv,hsh.hr,hsh.sl,hsh.ll,hsh.gl,hsh.gv,by rw [List.length_set];exact hsh.cl,fun j => ?_⟩⟩
  rw [getD_set];split
  ·exact reg_i64 h hk _
  ·exact hsh.cv j
 split
 ·rename_i h1
  obtain ⟨_,_,ha,_,_,_⟩:=hr
  rw [h1] at ha;have ha:=fit_s (show fitM s _ 115 _ from ha)
  split
  ·exact ⟨h0,hsh⟩
  ·exact ⟨Rs.new h hk he (by omega) _ ha,hsh⟩
 split
 ·exact ⟨h0,hsh⟩
 ·exact ⟨h0,hsh⟩
theorem act_mid {s : Syst} {t : St} {k : Nat} (ho : Ok s) (hn : Nm s) (h : Good s t) (hk : k < t.rns.length) (hc : can s t k = true) : Mid s k (act s t k).st:=by
 have he:=can_going hc
 unfold act
 split
 ·exact chan_mid ho h hk hc (by assumption)
 ·split
  ·exact shar_mid ho h hk hc (by assumption)
  ·exact ⟨own_rs ho hn h hk he,h.sh⟩
theorem good_step {s : Syst} {t : St} {k : Nat} (ho : Ok s) (hn : Nm s) (h : Good s t) (hk : k < t.rns.length) (hc : can s t k = true) (hl : t.evs.length < 40000) : Good s (step s t k):=by
 unfold step
 split
 ·exact ⟨h.r1,h.r2,h.gr,h.hl,h.hv,h.hr,h.sl,h.ll,h.gl,h.gv,h.cl,h.cv,by simp;omega⟩
 ·obtain ⟨h1,h2⟩:=act_mid ho hn h hk hc
  have h3:=h1.on
  refine ⟨?_,?_,h3,h2.hl,h2.hv,h2.hr,h2.sl,h2.ll,h2.gl,h2.gv,h2.cl,h2.cv,by simp;omega⟩
  ·show 1 ≤ (on s _ k).length
   unfold on;rw [List.length_set];have:=h1.k1
   omega
  ·show (on s _ k).length ≤ 512
   unfold on;rw [List.length_set];exact h1.k2
theorem ready_mem {s : Syst} {t : St} {k : Nat} (h : k ∈ ready s t) : k < t.rns.length ∧ can s t k = true:=by
 unfold ready at h
 rw [List.mem_filter] at h
 exact ⟨List.mem_range.1 h.1,h.2⟩
theorem rest_lt {x : Int} {n : Nat} (h : 0 < n) : (rest x n).toNat < n:=by
 unfold rest
 have h1:=Int.emod_nonneg x (b:=(n : Int)) (by omega)
 have h2:=Int.emod_lt_of_pos x (b:=(n : Int)) (by omega)
 omega
theorem turn_ok {s : Syst} {picks : List Int} {t : St} (h : fin s t = 0) : turn s picks t < t.rns.length ∧ can s t (turn s picks t) = true:=by
 have h1:=fin_ready h
 refine ready_mem (t:=t) (s:=s) ?_
 unfold turn
 have hx : (if t.evs.length < picks.length then (rest (picks.getD t.evs.length 0) (ready s t).length).toNat else 0) < (ready s t).length:=by
  split
  ·exact rest_lt h1
  ·exact h1
 rw [gDQ,List.getElem?_eq_getElem hx]
 exact List.getElem_mem hx
theorem good_turn {s : Syst} {picks : List Int} {t : St} (ho : Ok s) (hn : Nm s) (h : Good s t) (hf : fin s t = 0) : Good s (step s t (turn s picks t)):=by
 obtain ⟨h1,h2⟩:=turn_ok (picks:=picks) hf
 exact good_step ho hn h h1 h2 (fin_len hf)
end Mc
end Go.Proofs.Ytfbnakmmmphedaa
