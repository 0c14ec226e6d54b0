/-
 What an instruction does, without the place; events in the making; regions that may give up.
-/
import Derived.Test.YtfbnakmmmphedaaPgMgo
set_option linter.unusedVariables false
set_option linter.unusedSimpArgs false
namespace Go.Proofs.Ytfbnakmmmphedaa
open List renaming getD_eq_getElem?_getD → gDQ
open Go.RowKit
namespace LW
open Mc
def nx (s : Syst) (t : St) (k : Nat) : Int :=
 if (ins s t k).op = 3 then (if reg t k (ins s t k).a < reg t k (ins s t k).b then (ins s t k).c else (Mc.rn t k).pos + 1)
 else if (ins s t k).op = 4 then (ins s t k).c
 else if (ins s t k).op = 16 then ((pg s (Mc.rn t k).prog).length : Int)
 else if (ins s t k).op = 6 ∧ t.held.getD (ins s t k).a.toNat [] = [] then (ins s t k).c
 else (Mc.rn t k).pos + 1
def prn (s : Syst) (t : St) (k : Nat) : List Rn :=
 if (ins s t k).op = 1 then setR t k (ins s t k).a (ins s t k).b
 else if (ins s t k).op = 2 then setR t k (ins s t k).a (IntKind.i64.wrap (reg t k (ins s t k).a + reg t k (ins s t k).b))
 else if (ins s t k).op = 6 ∧ t.held.getD (ins s t k).a.toNat [] ≠ [] then setR t k (ins s t k).b ((t.held.getD (ins s t k).a.toNat []).headD 0)
 else if (ins s t k).op = 12 then setR t k (ins s t k).b (t.cells.getD (cel s t k).toNat 0)
 else if (ins s t k).op = 14 then t.rns ++ [⟨(ins s t k).a,0,(Mc.rn t k).regs,(pg s (ins s t k).a).isEmpty⟩]
 else t.rns
def mid (s : Syst) (t : St) (k : Nat) : St:={ (act s t k).st with rns:=prn s t k,evs:=t.evs ++ [ev s t k] }
def DoQ (o : World) (g : Nat) (s : Syst) (pa : Option Addr) (pc : Nat) (t : St) (m : PV) (k : Nat) : Ending → World → Prop:=fun e w' => ∃ m',SG m m' ∧ m'.ps.getD k 0 = m.ps.getD k 0 ∧ ((bad s t k ≠ 0 ∧ e = .panicked (flP (bad s t k)) ∧ PM o w' g s pa pc { t with evs:=t.evs ++ [ev s t k] } m') ∨ (bad s t k = 0 ∧ e = .returned (.int .i64 (nx s t k)) ∧ PM o w' g s pa pc (mid s t k) m'))
theorem DoQ.bad_ {o : World} {g : Nat} {s : Syst} {pa : Option Addr} {pc : Nat} {t : St} {m : PV} {k : Nat} {w' : World} {m' : PV} {x : Ev} {er : Int} (h : bad s t k = er ∧ er ≠ 0 ∧ ev s t k = x) (hg : SG m m') (hp : m'.ps.getD k 0 = m.ps.getD k 0) (hm : PM o w' g s pa pc { t with evs:=t.evs ++ [x] } m') : DoQ o g s pa pc t m k (.panicked (flP er)) w':=by
 obtain ⟨h1,h2,h3⟩:=h
 exact ⟨m',hg,hp,.inl ⟨by rw [h1];exact h2,by rw [h1],by rw [h3];exact hm⟩⟩
theorem DoQ.ok_ {o : World} {g : Nat} {s : Syst} {pa : Option Addr} {pc : Nat} {t : St} {m : PV} {k : Nat} {w' : World} {m' : PV} {u : St} {n : Int} (h : bad s t k = 0 ∧ nx s t k = n ∧ mid s t k = u) (hg : SG m m') (hp : m'.ps.getD k 0 = m.ps.getD k 0) (hm : PM o w' g s pa pc u m') : DoQ o g s pa pc t m k (.returned (.int .i64 n)) w':=by
 obtain ⟨h1,h2,h3⟩:=h
 exact ⟨m',hg,hp,.inr ⟨h1,by rw [h2],by rw [h3];exact hm⟩⟩
theorem F1 {s : Syst} {t : St} {k : Nat} (h : (ins s t k).op = 1) : bad s t k = 0 ∧ nx s t k = (Mc.rn t k).pos + 1 ∧ mid s t k = { t with rns:=setR t k (ins s t k).a (ins s t k).b,evs:=t.evs ++ [⟨k,1,0,0,false⟩] }:=by
 refine ⟨?_,?_,?_⟩
 ·simp [bad,act,chan,shar,h]
 ·simp [nx,h]
 ·simp [mid,prn,ev,act,chan,shar,own,h]
theorem F2 {s : Syst} {t : St} {k : Nat} (h : (ins s t k).op = 2) : bad s t k = 0 ∧ nx s t k = (Mc.rn t k).pos + 1 ∧ mid s t k = { t with rns:=setR t k (ins s t k).a (IntKind.i64.wrap (reg t k (ins s t k).a + reg t k (ins s t k).b)),evs:=t.evs ++ [⟨k,2,0,0,false⟩] }:=by
 refine ⟨?_,?_,?_⟩
 ·simp [bad,act,chan,shar,h]
 ·simp [nx,h]
 ·simp [mid,prn,ev,act,chan,shar,own,h]
theorem F3t {s : Syst} {t : St} {k : Nat} (h : (ins s t k).op = 3) (h2 : reg t k (ins s t k).a < reg t k (ins s t k).b) : bad s t k = 0 ∧ nx s t k = (ins s t k).c ∧ mid s t k = { t with evs:=t.evs ++ [⟨k,3,0,0,false⟩] }:=by
 refine ⟨?_,?_,?_⟩
 ·simp [bad,act,chan,shar,h,h2]
 ·simp [nx,h,h2]
 ·simp [mid,prn,ev,act,chan,shar,own,h,h2]
theorem F3f {s : Syst} {t : St} {k : Nat} (h : (ins s t k).op = 3) (h2 : ¬ reg t k (ins s t k).a < reg t k (ins s t k).b) : bad s t k = 0 ∧ nx s t k = (Mc.rn t k).pos + 1 ∧ mid s t k = { t with evs:=t.evs ++ [⟨k,3,0,0,false⟩] }:=by
 refine ⟨?_,?_,?_⟩
 ·simp [bad,act,chan,shar,h,h2]
 ·rw [nx,if_pos h,if_neg h2]
 ·simp [mid,prn,ev,act,chan,shar,own,h,h2]
theorem F4 {s : Syst} {t : St} {k : Nat} (h : (ins s t k).op = 4) : bad s t k = 0 ∧ nx s t k = (ins s t k).c ∧ mid s t k = { t with evs:=t.evs ++ [⟨k,4,0,0,false⟩] }:=by
 refine ⟨?_,?_,?_⟩
 ·simp [bad,act,chan,shar,h]
 ·simp [nx,h]
 ·simp [mid,prn,ev,act,chan,shar,own,h]
theorem F16 {s : Syst} {t : St} {k : Nat} (h : (ins s t k).op = 16) : bad s t k = 0 ∧ nx s t k = ((pg s (Mc.rn t k).prog).length : Int) ∧ mid s t k = { t with evs:=t.evs ++ [⟨k,16,0,0,false⟩] }:=by
 refine ⟨?_,?_,?_⟩
 ·simp [bad,act,chan,shar,h]
 ·simp [nx,h]
 ·simp [mid,prn,ev,act,chan,shar,own,h]
theorem F5s {s : Syst} {t : St} {k : Nat} (h : (ins s t k).op = 5) (h2 : t.shut.getD (ins s t k).a.toNat false = true) : bad s t k = 131 ∧ (131 : Int) ≠ 0 ∧ ev s t k = ⟨k,5,(ins s t k).a,reg t k (ins s t k).b,false⟩:=by
 refine ⟨?_,by decide,?_⟩
 ·simp only [bad,act,h];simp [chan5s h h2]
 ·simp only [ev,act,h];simp [chan5s h h2]
theorem F5 {s : Syst} {t : St} {k : Nat} (h : (ins s t k).op = 5) (h2 : ¬ t.shut.getD (ins s t k).a.toNat false = true) : bad s t k = 0 ∧ nx s t k = (Mc.rn t k).pos + 1 ∧ mid s t k = { t with held:=t.held.set (ins s t k).a.toNat (t.held.getD (ins s t k).a.toNat [] ++ [reg t k (ins s t k).b]),evs:=t.evs ++ [⟨k,5,(ins s t k).a,reg t k (ins s t k).b,false⟩] }:=by
 have ha : act s t k = ⟨(ins s t k).a,reg t k (ins s t k).b,false,0,{ t with held:=t.held.set (ins s t k).a.toNat (t.held.getD (ins s t k).a.toNat [] ++ [reg t k (ins s t k).b]) }⟩:=by
  unfold act;rw [if_pos (by rw [h];decide),chan5 h h2]
 refine ⟨?_,?_,?_⟩
 ·rw [bad,ha]
 ·rw [nx,if_neg (by rw [h];decide),if_neg (by rw [h];decide),if_neg (by rw [h];decide)]
  rw [if_neg (fun hh => absurd (h.symm.trans hh.1) (by decide))]
 ·rw [mid,ev,ha,prn,if_neg (by rw [h];decide),if_neg (by rw [h];decide)]
  rw [if_neg (fun hh => absurd (h.symm.trans hh.1) (by decide)),if_neg (by rw [h];decide),if_neg (by rw [h];decide),h]
theorem F6e {s : Syst} {t : St} {k : Nat} (h : (ins s t k).op = 6) (h2 : t.held.getD (ins s t k).a.toNat [] = []) : bad s t k = 0 ∧ nx s t k = (ins s t k).c ∧ mid s t k = { t with evs:=t.evs ++ [⟨k,6,(ins s t k).a,reg t k (ins s t k).b,true⟩] }:=by
 have ha : act s t k = ⟨(ins s t k).a,reg t k (ins s t k).b,true,0,{ t with rns:=setP t k ((ins s t k).c - 1) }⟩:=by
  unfold act;rw [if_pos (by rw [h];decide),chan6e h h2]
 refine ⟨?_,?_,?_⟩
 ·rw [bad,ha]
 ·rw [nx,if_neg (by rw [h];decide),if_neg (by rw [h];decide),if_neg (by rw [h];decide)]
  rw [if_pos ⟨h,h2⟩]
 ·rw [mid,ev,ha,prn,if_neg (by rw [h];decide),if_neg (by rw [h];decide)]
  rw [if_neg (fun hh => hh.2 h2),if_neg (by rw [h];decide),if_neg (by rw [h];decide),h]
theorem F6 {s : Syst} {t : St} {k : Nat} (h : (ins s t k).op = 6) (h2 : ¬ t.held.getD (ins s t k).a.toNat [] = []) : bad s t k = 0 ∧ nx s t k = (Mc.rn t k).pos + 1 ∧ mid s t k = { t with held:=t.held.set (ins s t k).a.toNat (t.held.getD (ins s t k).a.toNat []).tail,rns:=setR t k (ins s t k).b ((t.held.getD (ins s t k).a.toNat []).headD 0),evs:=t.evs ++ [⟨k,6,(ins s t k).a,((t.held.getD (ins s t k).a.toNat []).headD 0),false⟩] }:=by
 have ha : act s t k = ⟨(ins s t k).a,((t.held.getD (ins s t k).a.toNat []).headD 0),false,0,{ t with held:=t.held.set (ins s t k).a.toNat (t.held.getD (ins s t k).a.toNat []).tail,rns:=setR t k (ins s t k).b ((t.held.getD (ins s t k).a.toNat []).headD 0) }⟩:=by
  unfold act;rw [if_pos (by rw [h];decide),chan6 h h2]
 refine ⟨?_,?_,?_⟩
 ·rw [bad,ha]
 ·rw [nx,if_neg (by rw [h];decide),if_neg (by rw [h];decide),if_neg (by rw [h];decide)]
  rw [if_neg (fun hh => h2 hh.2)]
 ·rw [mid,ev,ha,prn,if_neg (by rw [h];decide),if_neg (by rw [h];decide)]
  rw [if_pos ⟨h,h2⟩,h]
theorem F7s {s : Syst} {t : St} {k : Nat} (h : (ins s t k).op = 7) (h2 : t.shut.getD (ins s t k).a.toNat false = true) : bad s t k = 132 ∧ (132 : Int) ≠ 0 ∧ ev s t k = ⟨k,7,(ins s t k).a,0,false⟩:=by
 have ha : act s t k = ⟨(ins s t k).a,0,false,132,t⟩:=by
  unfold act;rw [if_pos (by rw [h];decide),chan7s h h2]
 exact ⟨by rw [bad,ha],by decide,by rw [ev,ha,h]⟩
theorem F7 {s : Syst} {t : St} {k : Nat} (h : (ins s t k).op = 7) (h2 : ¬ t.shut.getD (ins s t k).a.toNat false = true) : bad s t k = 0 ∧ nx s t k = (Mc.rn t k).pos + 1 ∧ mid s t k = { t with shut:=t.shut.set (ins s t k).a.toNat true,evs:=t.evs ++ [⟨k,7,(ins s t k).a,0,false⟩] }:=by
 have ha : act s t k = ⟨(ins s t k).a,0,false,0,{ t with shut:=t.shut.set (ins s t k).a.toNat true }⟩:=by
  unfold act;rw [if_pos (by rw [h];decide),chan7 h h2]
 refine ⟨?_,?_,?_⟩
 ·rw [bad,ha]
 ·rw [nx,if_neg (by rw [h];decide),if_neg (by rw [h];decide),if_neg (by rw [h];decide)]
  rw [if_neg (fun hh => absurd (h.symm.trans hh.1) (by decide))]
 ·rw [mid,ev,ha,prn,if_neg (by rw [h];decide),if_neg (by rw [h];decide)]
  rw [if_neg (fun hh => absurd (h.symm.trans hh.1) (by decide)),if_neg (by rw [h];decide),if_neg (by rw [h];decide),h]
theorem F8 {s : Syst} {t : St} {k : Nat} (h : (ins s t k).op = 8) : bad s t k = 0 ∧ nx s t k = (Mc.rn t k).pos + 1 ∧ mid s t k = { t with locked:=t.locked.set (ins s t k).a.toNat true,evs:=t.evs ++ [⟨k,8,(ins s t k).a,0,false⟩] }:=by
 have ha : act s t k = ⟨(ins s t k).a,0,false,0,{ t with locked:=t.locked.set (ins s t k).a.toNat true }⟩:=by
  unfold act;rw [if_neg (by rw [h];decide),if_pos (by rw [h];decide),shar8 h]
 refine ⟨?_,?_,?_⟩
 ·rw [bad,ha]
 ·rw [nx,if_neg (by rw [h];decide),if_neg (by rw [h];decide),if_neg (by rw [h];decide)]
  rw [if_neg (fun hh => absurd (h.symm.trans hh.1) (by decide))]
 ·rw [mid,ev,ha,prn,if_neg (by rw [h];decide),if_neg (by rw [h];decide)]
  rw [if_neg (fun hh => absurd (h.symm.trans hh.1) (by decide)),if_neg (by rw [h];decide),if_neg (by rw [h];decide),h]
theorem F9e {s : Syst} {t : St} {k : Nat} (h : (ins s t k).op = 9) (h2 : ¬ t.locked.getD (ins s t k).a.toNat false = true) : bad s t k = 133 ∧ (133 : Int) ≠ 0 ∧ ev s t k = ⟨k,9,(ins s t k).a,0,false⟩:=by
 have ha : act s t k = ⟨(ins s t k).a,0,false,133,t⟩:=by
  unfold act;rw [if_neg (by rw [h];decide),if_pos (by rw [h];decide),shar9e h h2]
 exact ⟨by rw [bad,ha],by decide,by rw [ev,ha,h]⟩
theorem F9 {s : Syst} {t : St} {k : Nat} (h : (ins s t k).op = 9) (h2 : t.locked.getD (ins s t k).a.toNat false = true) : bad s t k = 0 ∧ nx s t k = (Mc.rn t k).pos + 1 ∧ mid s t k = { t with locked:=t.locked.set (ins s t k).a.toNat false,evs:=t.evs ++ [⟨k,9,(ins s t k).a,0,false⟩] }:=by
 have ha : act s t k = ⟨(ins s t k).a,0,false,0,{ t with locked:=t.locked.set (ins s t k).a.toNat false }⟩:=by
  unfold act;rw [if_neg (by rw [h];decide),if_pos (by rw [h];decide),shar9 h h2]
 refine ⟨?_,?_,?_⟩
 ·rw [bad,ha]
 ·rw [nx,if_neg (by rw [h];decide),if_neg (by rw [h];decide),if_neg (by rw [h];decide)]
  rw [if_neg (fun hh => absurd (h.symm.trans hh.1) (by decide))]
 ·rw [mid,ev,ha,prn,if_neg (by rw [h];decide),if_neg (by rw [h];decide)]
  rw [if_neg (fun hh => absurd (h.symm.trans hh.1) (by decide)),if_neg (by rw [h];decide),if_neg (by rw [h];decide),h]
theorem F10e {s : Syst} {t : St} {k : Nat} (h : (ins s t k).op = 10) (h2 : grp s t k < 0) : bad s t k = 134 ∧ (134 : Int) ≠ 0 ∧ ev s t k = ⟨k,10,(ins s t k).a,grp s t k,false⟩:=by
 have ha : act s t k = ⟨(ins s t k).a,grp s t k,false,134,t⟩:=by
  unfold act;rw [if_neg (by rw [h];decide),if_pos (by rw [h];decide),shar10e h h2]
 exact ⟨by rw [bad,ha],by decide,by rw [ev,ha,h]⟩
theorem F10 {s : Syst} {t : St} {k : Nat} (h : (ins s t k).op = 10) (h2 : ¬ grp s t k < 0) : bad s t k = 0 ∧ nx s t k = (Mc.rn t k).pos + 1 ∧ mid s t k = { t with groups:=t.groups.set (ins s t k).a.toNat (grp s t k),evs:=t.evs ++ [⟨k,10,(ins s t k).a,grp s t k,false⟩] }:=by
 have ha : act s t k = ⟨(ins s t k).a,grp s t k,false,0,{ t with groups:=t.groups.set (ins s t k).a.toNat (grp s t k) }⟩:=by
  unfold act;rw [if_neg (by rw [h];decide),if_pos (by rw [h];decide),shar10 h h2]
 refine ⟨?_,?_,?_⟩
 ·rw [bad,ha]
 ·rw [nx,if_neg (by rw [h];decide),if_neg (by rw [h];decide),if_neg (by rw [h];decide)]
  rw [if_neg (fun hh => absurd (h.symm.trans hh.1) (by decide))]
 ·rw [mid,ev,ha,prn,if_neg (by rw [h];decide),if_neg (by rw [h];decide)]
  rw [if_neg (fun hh => absurd (h.symm.trans hh.1) (by decide)),if_neg (by rw [h];decide),if_neg (by rw [h];decide),h]
theorem F11 {s : Syst} {t : St} {k : Nat} (h : (ins s t k).op = 11) : bad s t k = 0 ∧ nx s t k = (Mc.rn t k).pos + 1 ∧ mid s t k = { t with evs:=t.evs ++ [⟨k,11,(ins s t k).a,0,false⟩] }:=by
 have ha : act s t k = ⟨(ins s t k).a,0,false,0,t⟩:=by
  unfold act;rw [if_neg (by rw [h];decide),if_pos (by rw [h];decide),shar11 h]
 refine ⟨?_,?_,?_⟩
 ·rw [bad,ha]
 ·rw [nx,if_neg (by rw [h];decide),if_neg (by rw [h];decide),if_neg (by rw [h];decide)]
  rw [if_neg (fun hh => absurd (h.symm.trans hh.1) (by decide))]
 ·rw [mid,ev,ha,prn,if_neg (by rw [h];decide),if_neg (by rw [h];decide)]
  rw [if_neg (fun hh => absurd (h.symm.trans hh.1) (by decide)),if_neg (by rw [h];decide),if_neg (by rw [h];decide),h]
theorem F12 {s : Syst} {t : St} {k : Nat} (h : (ins s t k).op = 12) : bad s t k = 0 ∧ nx s t k = (Mc.rn t k).pos + 1 ∧ mid s t k = { t with rns:=setR t k (ins s t k).b (t.cells.getD (cel s t k).toNat 0),evs:=t.evs ++ [⟨k,12,cel s t k,(t.cells.getD (cel s t k).toNat 0),false⟩] }:=by
 have ha : act s t k = ⟨cel s t k,t.cells.getD (cel s t k).toNat 0,false,0,{ t with rns:=setR t k (ins s t k).b (t.cells.getD (cel s t k).toNat 0) }⟩:=by
  unfold act;rw [if_neg (by rw [h];decide),if_pos (by rw [h];decide),(show shar s t k = ⟨cel s t k,t.cells.getD (cel s t k).toNat 0,false,0,{ t with rns:=setR t k (ins s t k).b (t.cells.getD (cel s t k).toNat 0) }⟩ from by unfold shar;rw [if_neg (by rw [h];decide)];rw [if_neg (by rw [h];decide)];rw [if_neg (by rw [h];decide)];rw [if_pos h])]
 refine ⟨?_,?_,?_⟩
 ·rw [bad,ha]
 ·rw [nx,if_neg (by rw [h];decide),if_neg (by rw [h];decide),if_neg (by rw [h];decide)]
  rw [if_neg (fun hh => absurd (h.symm.trans hh.1) (by decide))]
 ·rw [mid,ev,ha,prn,if_neg (by rw [h];decide),if_neg (by rw [h];decide)]
  rw [if_neg (fun hh => absurd (h.symm.trans hh.1) (by decide)),if_pos h,h]
theorem F13 {s : Syst} {t : St} {k : Nat} (h : (ins s t k).op = 13) : bad s t k = 0 ∧ nx s t k = (Mc.rn t k).pos + 1 ∧ mid s t k = { t with cells:=t.cells.set (cel s t k).toNat (reg t k (ins s t k).b),evs:=t.evs ++ [⟨k,13,cel s t k,reg t k (ins s t k).b,false⟩] }:=by
 have ha : act s t k = ⟨cel s t k,reg t k (ins s t k).b,false,0,{ t with cells:=t.cells.set (cel s t k).toNat (reg t k (ins s t k).b) }⟩:=by
  unfold act;rw [if_neg (by rw [h];decide),if_pos (by rw [h];decide),(show shar s t k = ⟨cel s t k,reg t k (ins s t k).b,false,0,{ t with cells:=t.cells.set (cel s t k).toNat (reg t k (ins s t k).b) }⟩ from by unfold shar;rw [if_neg (by rw [h];decide)];rw [if_neg (by rw [h];decide)];rw [if_neg (by rw [h];decide)];rw [if_neg (by rw [h];decide)];rw [if_pos h])]
 refine ⟨?_,?_,?_⟩
 ·rw [bad,ha]
 ·rw [nx,if_neg (by rw [h];decide),if_neg (by rw [h];decide),if_neg (by rw [h];decide)]
  rw [if_neg (fun hh => absurd (h.symm.trans hh.1) (by decide))]
 ·rw [mid,ev,ha,prn,if_neg (by rw [h];decide),if_neg (by rw [h];decide)]
  rw [if_neg (fun hh => absurd (h.symm.trans hh.1) (by decide)),if_neg (by rw [h];decide),if_neg (by rw [h];decide),h]
theorem F14e {s : Syst} {t : St} {k : Nat} (h : (ins s t k).op = 14) (h2 : 512 ≤ t.rns.length) : bad s t k = 135 ∧ (135 : Int) ≠ 0 ∧ ev s t k = ⟨k,14,(ins s t k).a,0,false⟩:=by
 have ha : act s t k = ⟨(ins s t k).a,0,false,135,t⟩:=by
  unfold act;rw [if_neg (by rw [h];decide),if_pos (by rw [h];decide),(show shar s t k = ⟨(ins s t k).a,0,false,135,t⟩ from by unfold shar;rw [if_neg (by rw [h];decide)];rw [if_neg (by rw [h];decide)];rw [if_neg (by rw [h];decide)];rw [if_neg (by rw [h];decide)];rw [if_neg (by rw [h];decide)];rw [if_pos h,if_pos h2])]
 exact ⟨by rw [bad,ha],by decide,by rw [ev,ha,h]⟩
theorem F14 {s : Syst} {t : St} {k : Nat} (h : (ins s t k).op = 14) (h2 : ¬ 512 ≤ t.rns.length) : bad s t k = 0 ∧ nx s t k = (Mc.rn t k).pos + 1 ∧ mid s t k = { t with rns:=t.rns ++ [⟨(ins s t k).a,0,(Mc.rn t k).regs,(pg s (ins s t k).a).isEmpty⟩],evs:=t.evs ++ [⟨k,14,(ins s t k).a,(t.rns.length : Int),false⟩] }:=by
 have ha : act s t k = ⟨(ins s t k).a,(t.rns.length : Int),false,0,{ t with rns:=t.rns ++ [⟨(ins s t k).a,0,(Mc.rn t k).regs,(pg s (ins s t k).a).isEmpty⟩] }⟩:=by
  unfold act;rw [if_neg (by rw [h];decide),if_pos (by rw [h];decide),(show shar s t k = ⟨(ins s t k).a,(t.rns.length : Int),false,0,{ t with rns:=t.rns ++ [⟨(ins s t k).a,0,(Mc.rn t k).regs,(pg s (ins s t k).a).isEmpty⟩] }⟩ from by unfold shar;rw [if_neg (by rw [h];decide)];rw [if_neg (by rw [h];decide)];rw [if_neg (by rw [h];decide)];rw [if_neg (by rw [h];decide)];rw [if_neg (by rw [h];decide)];rw [if_pos h,if_neg h2])]
 refine ⟨?_,?_,?_⟩
 ·rw [bad,ha]
 ·rw [nx,if_neg (by rw [h];decide),if_neg (by rw [h];decide),if_neg (by rw [h];decide)]
  rw [if_neg (fun hh => absurd (h.symm.trans hh.1) (by decide))]
 ·rw [mid,ev,ha,prn,if_neg (by rw [h];decide),if_neg (by rw [h];decide)]
  rw [if_neg (fun hh => absurd (h.symm.trans hh.1) (by decide)),if_neg (by rw [h];decide),if_pos h,h]
theorem F15 {s : Syst} {t : St} {k : Nat} (h : (ins s t k).op = 15) : bad s t k = 0 ∧ nx s t k = (Mc.rn t k).pos + 1 ∧ mid s t k = { t with evs:=t.evs ++ [⟨k,15,(ins s t k).a,reg t k (ins s t k).b,false⟩] }:=by
 have ha : act s t k = ⟨(ins s t k).a,reg t k (ins s t k).b,false,0,t⟩:=by
  unfold act;rw [if_neg (by rw [h];decide),if_pos (by rw [h];decide),(show shar s t k = ⟨(ins s t k).a,reg t k (ins s t k).b,false,0,t⟩ from by unfold shar;rw [if_neg (by rw [h];decide)];rw [if_neg (by rw [h];decide)];rw [if_neg (by rw [h];decide)];rw [if_neg (by rw [h];decide)];rw [if_neg (by rw [h];decide)];rw [if_neg (by rw [h];decide)];rw [if_pos h])]
 refine ⟨?_,?_,?_⟩
 ·rw [bad,ha]
 ·rw [nx,if_neg (by rw [h];decide),if_neg (by rw [h];decide),if_neg (by rw [h];decide)]
  rw [if_neg (fun hh => absurd (h.symm.trans hh.1) (by decide))]
 ·rw [mid,ev,ha,prn,if_neg (by rw [h];decide),if_neg (by rw [h];decide)]
  rw [if_neg (fun hh => absurd (h.symm.trans hh.1) (by decide)),if_neg (by rw [h];decide),if_neg (by rw [h];decide),h]
theorem evC_lastA (l : List Ev) (e : Ev) (x : Int) : evC (l ++ [{ e with a:=x }]) = (evC (l ++ [e])).set (l.length * 5 + 2) (.int .i64 x):=by
 unfold evC
 rw [← flC_set 5 evV ⟨0,0,0,0,false⟩ (l ++ [e]) l.length 2 { e with a:=x } _ (by simp) (by omega) (fun i hi => ?_)]
 ·congr 1
  simp
 ·have hg : (l ++ [e]).getD l.length ⟨0,0,0,0,false⟩ = e:=by simp [gDQ]
  rw [hg];match i,hi with
  | 0,_ => rfl
  | 1,_ => rfl
  | 2,_ => rfl
  | 3,_ => rfl
  | 4,_ => rfl
theorem PM.lastA {o W : World} {g : Nat} {s : Syst} {pa : Option Addr} {pc : Nat} {t : St} {m : PV} {e : Ev} (h : PM o W g s pa pc { t with evs:=t.evs ++ [e] } m) {eb cap : Nat} (he : m.ev = .slice (some ⟨eb,0,none⟩) (t.evs.length + 1) cap) (x : Int) : PM o (W.setCell ⟨eb,t.evs.length * 5 + 2,none⟩ (.int .i64 x)) g s pa pc { t with evs:=t.evs ++ [{ e with a:=x }] } m :=
 h.setEv (cap:=cap) (by rw [he];simp) (by simp) (t.evs ++ [{ e with a:=x }]) _ _ (by simp) (evC_lastA t.evs e x)
theorem evC_lastV (l : List Ev) (e : Ev) (x : Int) : evC (l ++ [{ e with value:=x }]) = (evC (l ++ [e])).set (l.length * 5 + 3) (.int .i64 x):=by
 unfold evC
 rw [← flC_set 5 evV ⟨0,0,0,0,false⟩ (l ++ [e]) l.length 3 { e with value:=x } _ (by simp) (by omega) (fun i hi => ?_)]
 ·congr 1
  simp
 ·have hg : (l ++ [e]).getD l.length ⟨0,0,0,0,false⟩ = e:=by simp [gDQ]
  rw [hg];match i,hi with
  | 0,_ => rfl
  | 1,_ => rfl
  | 2,_ => rfl
  | 3,_ => rfl
  | 4,_ => rfl
theorem PM.lastV {o W : World} {g : Nat} {s : Syst} {pa : Option Addr} {pc : Nat} {t : St} {m : PV} {e : Ev} (h : PM o W g s pa pc { t with evs:=t.evs ++ [e] } m) {eb cap : Nat} (he : m.ev = .slice (some ⟨eb,0,none⟩) (t.evs.length + 1) cap) (x : Int) : PM o (W.setCell ⟨eb,t.evs.length * 5 + 3,none⟩ (.int .i64 x)) g s pa pc { t with evs:=t.evs ++ [{ e with value:=x }] } m :=
 h.setEv (cap:=cap) (by rw [he];simp) (by simp) (t.evs ++ [{ e with value:=x }]) _ _ (by simp) (evC_lastV t.evs e x)
theorem evC_lastS (l : List Ev) (e : Ev) (x : Bool) : evC (l ++ [{ e with shut:=x }]) = (evC (l ++ [e])).set (l.length * 5 + 4) (.bool x):=by
 unfold evC
 rw [← flC_set 5 evV ⟨0,0,0,0,false⟩ (l ++ [e]) l.length 4 { e with shut:=x } _ (by simp) (by omega) (fun i hi => ?_)]
 ·congr 1
  simp
 ·have hg : (l ++ [e]).getD l.length ⟨0,0,0,0,false⟩ = e:=by simp [gDQ]
  rw [hg];match i,hi with
  | 0,_ => rfl
  | 1,_ => rfl
  | 2,_ => rfl
  | 3,_ => rfl
  | 4,_ => rfl
theorem PM.lastS {o W : World} {g : Nat} {s : Syst} {pa : Option Addr} {pc : Nat} {t : St} {m : PV} {e : Ev} (h : PM o W g s pa pc { t with evs:=t.evs ++ [e] } m) {eb cap : Nat} (he : m.ev = .slice (some ⟨eb,0,none⟩) (t.evs.length + 1) cap) (x : Bool) : PM o (W.setCell ⟨eb,t.evs.length * 5 + 4,none⟩ (.bool x)) g s pa pc { t with evs:=t.evs ++ [{ e with shut:=x }] } m :=
 h.setEv (cap:=cap) (by rw [he];simp) (by simp) (t.evs ++ [{ e with shut:=x }]) _ _ (by simp) (evC_lastS t.evs e x)
theorem PM.last1 {o W : World} {g : Nat} {s : Syst} {pa : Option Addr} {pc : Nat} {t : St} {m : PV} {e : Ev} (h : PM o W g s pa pc { t with evs:=t.evs ++ [e] } m) {eb cap : Nat} (he : m.ev = .slice (some ⟨eb,0,none⟩) (t.evs.length + 1) cap) : (∀ j,W.frozen? ⟨eb,j,none⟩ = false) ∧ W.cell? ⟨eb,t.evs.length * 5 + 2,none⟩ = some (.int .i64 e.a) ∧ W.cell? ⟨eb,t.evs.length * 5 + 3,none⟩ = some (.int .i64 e.value) ∧ W.cell? ⟨eb,t.evs.length * 5 + 4,none⟩ = some (.bool e.shut):=by
 obtain ⟨b,cp,e1,_,_,hf,hr⟩:=own_rd h.evs (by simp)
 rw [he] at e1
 injection e1 with e1 _ _
 injection e1 with e1
 injection e1 with e1
 subst e1
 have hg : ∀ j,j < 5 → (evC (t.evs ++ [e]))[t.evs.length * 5 + j]? = some (evV e j):=fun j hj => by
  have:=flC_get 5 evV ⟨0,0,0,0,false⟩ (t.evs ++ [e]) t.evs.length j (by simp) hj
  rw [show (t.evs ++ [e]).getD t.evs.length ⟨0,0,0,0,false⟩ = e by simp [gDQ]] at this
  exact this
 exact ⟨hf,hr _ _ (hg 2 (by omega)),hr _ _ (hg 3 (by omega)),hr _ _ (hg 4 (by omega))⟩
def Pan (R : List PanicEntry → World → Prop) (Q : Exit → Act → World → Prop) : Exit → Act → World → Prop
 | .panic c,a,w => a.defers = [] ∧ R c w
 | e,a,w => Q e a w
theorem wp_pan {P : Program} {Q : Exit → Act → World → Prop} {a : Act} {w : World} {c : Code} (R : List PanicEntry → World → Prop) (hR : ∀ ch a w,a.defers = [] → R ch w → Q (.panic ch) a w) (h : c.wp P (Pan R Q) a w) : c.wp P Q a w :=
 wp_mono h (fun e a w hq => by
  cases e with
  | panic ch => exact hR ch a w hq.1 hq.2
  | _ => exact hq)
theorem put_defers (a : Act) (d : Option Tmp) (v : Value) : (a.put d v).defers = a.defers:=by cases d <;> rfl
theorem pan_put {R : List PanicEntry → World → Prop} {Q : Exit → Act → World → Prop} (c : List PanicEntry) (a : Act) (d : Option Tmp) (v : Value) (w : World) (h : Pan R Q (.panic c) (a.put d v) w) : Pan R Q (.panic c) a w:=⟨(put_defers a d v) ▸ h.1,h.2⟩
end LW
end Go.Proofs.Ytfbnakmmmphedaa
