/-
  PgF, PgG, PgH, PgI in one.
-/
import Derived.Test.YtfbnakmmmphedaaPgDo
import Derived.Test.YtfbnakmmmphedaaPgXo
import Derived.Defers
import Derived.Recover
set_option linter.unusedVariables false
set_option linter.unusedSimpArgs false
set_option maxRecDepth 100000
set_option maxHeartbeats 4000000
namespace Go.Proofs.Ytfbnakmmmphedaa
open List renaming getD_eq_getElem?_getD → gDQ
open Go.RowKit
namespace LW
open Mc
def insV (i : Ins) : Array Value:=#[.int .i64 i.op,.int .i64 i.a,.int .i64 i.b,.int .i64 i.c]
theorem nat_of {x n : Int} (h : 0 ≤ x ∧ x < n) : ∃ c : Nat,x = (c : Int) ∧ (c : Int) < n:=⟨x.toNat,by omega,by omega⟩
theorem pdo {o : World} {g : Nat} {s : Syst} {pa : Option Addr} {pc : Nat} {t : St} {m : PV} (k eb ecap : Nat) (w : World) (h : PM o w g s pa pc { t with evs:=t.evs ++ [⟨(k : Int),(ins s t k).op,0,0,false⟩] } m) (ho : Mc.Ok s) (hg : Mc.Good s t) (hk : k < t.rns.length) (hen : (Mc.rn t k).ended = false) (he : m.ev = .slice (some ⟨eb,0,none⟩) (t.evs.length + 1) ecap) :
  Calls Try.prog 42 #[.pointer (some ⟨g,0,none⟩),.pointer (some ⟨m.ps.getD k 0,0,none⟩),.agg (insV (ins s t k)),.pointer (some ⟨eb,t.evs.length * 5,none⟩)] w (DoQ o g s pa pc t m k):=by
 have hr:=ins_right ho hg hk hen
 have hps:=(hg.gr k hk).ps hen
 have hpr:=(hg.gr k hk).pr
 have hpl:=ho.pl (Mc.rn t k).prog.toNat (by omega)
 rw [pg_eq] at hpl
 obtain ⟨p,hpo⟩ : ∃ p : Nat,(Mc.rn t k).pos = (p : Int):=⟨(Mc.rn t k).pos.toNat,by omega⟩
 have hat : aT s (Mc.rn t k) = (p : Int):=by unfold aT;rw [hen];exact hpo
 have hp1 : p ≤ 256:=by omega
 have hl:=hg.hl
 have h2:=hg.ll
 have h3:=hg.gl
 have h4:=hg.cl
 have h5:=ho.c1
 have hcq : ∀ c,c < t.held.length → (t.held.getD c []).length ≤ 1024:=fun c hc => by
  have a1:=hg.hr c (by omega)
  have a2:=ho.rm c (by omega)
  omega
 have hcel : 0 < s.cells → ∀ r,∃ cj : Nat,cj < t.cells.length ∧ reg t k r % (t.cells.length : Int) = (cj : Int):=fun hc r => by
  have a1:=Int.emod_nonneg (reg t k r) (show (t.cells.length : Int) ≠ 0 by omega)
  have a2:=Int.emod_lt_of_pos (reg t k r) (show (0 : Int) < t.cells.length by omega)
  exact ⟨(reg t k r % (t.cells.length : Int)).toNat,by omega,by omega⟩
 have hc64 : t.cells.length ≤ 64:=by omega
 generalize (Mc.rn t k).prog.toNat = pr at *
 obtain ⟨I,hI⟩ : ∃ I,ins s t k = I:=⟨_,rfl⟩
 rw [hI] at hr h ⊢
 obtain ⟨op,a0,a1,a2⟩:=I
 obtain ⟨o1,o2,f0,f1,f2,f3⟩:=hr
 change 1 ≤ op at o1
 change op ≤ 16 at o2
 change fitM s pr ((fdM op).getD 0 0) a0 at f0
 change fitM s pr ((fdM op).getD 1 0) a1 at f1
 change fitM s pr ((fdM op).getD 2 0) a2 at f2
 change (op = 12 ∨ op = 13) → 0 < s.cells at f3
 change PM o w g s pa pc { t with evs:=t.evs ++ [⟨(k : Int),op,0,0,false⟩] } m at h
 show Calls _ _ #[_,_,.agg #[.int .i64 op,.int .i64 a0,.int .i64 a1,.int .i64 a2],_] _ _
 rcases op16 o1 o2 with rfl | rfl | rfl | rfl | rfl | rfl | rfl | rfl | rfl | rfl | rfl | rfl | rfl | rfl | rfl | rfl
 ·obtain ⟨r,rfl,hr⟩:=nat_of (fit_r f0)
  exact pdo1 k p r a1 a2 eb ecap w h ho hg hk hI hpo hat hp1 (by omega) he
 ·obtain ⟨r,rfl,hr⟩:=nat_of (fit_r f0)
  obtain ⟨q,rfl,hq⟩:=nat_of (fit_r f1)
  exact pdo2 k p r q a2 eb ecap w h ho hg hk hI hpo hat hp1 (by omega) (by omega) he
 ·obtain ⟨r,rfl,hr⟩:=nat_of (fit_r f0)
  obtain ⟨q,rfl,hq⟩:=nat_of (fit_r f1)
  exact pdo3 k p r q a2 eb ecap w h ho hg hk hI hpo hat hp1 (by omega) (by omega) he
 ·exact pdo4 k p a0 a1 a2 eb ecap w h ho hg hk hI hpo hat hp1 he
 ·obtain ⟨c,rfl,hc⟩:=nat_of (fit_c f0)
  obtain ⟨r,rfl,hr⟩:=nat_of (fit_r f1)
  exact pdoS k p 5 _ _ a2 eb ecap w h ho hg hk hI hpo hat hp1 (by decide) (fun W hW => psh5 k c r p a2 eb ecap W hW ho hg hk hI hpo hat hp1 (by omega) (by omega) (hcq c (by omega)) he) he
 ·obtain ⟨c,rfl,hc⟩:=nat_of (fit_c f0)
  obtain ⟨r,rfl,hr⟩:=nat_of (fit_r f1)
  exact pdoS k p 6 _ _ a2 eb ecap w h ho hg hk hI hpo hat hp1 (by decide) (fun W hW => psh6 k c r p a2 eb ecap W hW ho hg hk hI hpo hat hp1 (by omega) (by omega) (hcq c (by omega)) he) he
 ·obtain ⟨c,rfl,hc⟩:=nat_of (fit_c f0)
  exact pdoS k p 7 _ a1 a2 eb ecap w h ho hg hk hI hpo hat hp1 (by decide) (fun W hW => psh7 k c p a1 a2 eb ecap W hW ho hg hk hI hpo hat hp1 (by omega) he) he
 ·obtain ⟨c,rfl,hc⟩:=nat_of (fit_l f0)
  exact pdoS k p 8 _ a1 a2 eb ecap w h ho hg hk hI hpo hat hp1 (by decide) (fun W hW => psh8 k c p a1 a2 eb ecap W hW ho hg hk hI hpo hat hp1 (by omega) he) he
 ·obtain ⟨c,rfl,hc⟩:=nat_of (fit_l f0)
  exact pdoS k p 9 _ a1 a2 eb ecap w h ho hg hk hI hpo hat hp1 (by decide) (fun W hW => psh9 k c p a1 a2 eb ecap W hW ho hg hk hI hpo hat hp1 (by omega) he) he
 ·obtain ⟨c,rfl,hc⟩:=nat_of (fit_g f0)
  exact pdoS k p 10 _ a1 a2 eb ecap w h ho hg hk hI hpo hat hp1 (by decide) (fun W hW => psh10 k c p a1 a2 eb ecap W hW ho hg hk hI hpo hat hp1 (by omega) he) he
 ·obtain ⟨c,rfl,hc⟩:=nat_of (fit_g f0)
  exact pdoS k p 11 _ a1 a2 eb ecap w h ho hg hk hI hpo hat hp1 (by decide) (fun W hW => psh11 k c p a1 a2 eb ecap W hW ho hg hk hI hpo hat hp1 he) he
 ·obtain ⟨r,rfl,hr⟩:=nat_of (fit_r f0)
  obtain ⟨q,rfl,hq⟩:=nat_of (fit_r f1)
  obtain ⟨cj,hcj1,hcj2⟩:=hcel (f3 (.inl rfl)) (r : Int)
  exact pdo12 k p r q cj a2 eb ecap w h ho hg hk hI hpo hat hp1 (by omega) (by omega) hcj1 hc64 hcj2 he
 ·obtain ⟨r,rfl,hr⟩:=nat_of (fit_r f0)
  obtain ⟨q,rfl,hq⟩:=nat_of (fit_r f1)
  obtain ⟨cj,hcj1,hcj2⟩:=hcel (f3 (.inr rfl)) (r : Int)
  exact pdo13 k p r q cj a2 eb ecap w h ho hg hk hI hpo hat hp1 (by omega) (by omega) hcj1 hc64 hcj2 he
 ·obtain ⟨c,rfl,hc⟩:=nat_of (fit_s f0)
  exact pdoS k p 14 _ a1 a2 eb ecap w h ho hg hk hI hpo hat hp1 (by decide) (fun W hW => psh14 k c p a1 a2 eb ecap W hW ho hg hk hI hpo hat hp1 (by omega) he) he
 ·obtain ⟨r,rfl,hr⟩:=nat_of (fit_r f1)
  exact pdoS k p 15 a0 _ a2 eb ecap w h ho hg hk hI hpo hat hp1 (by decide) (fun W hW => psh15 k r p a0 a2 eb ecap W hW ho hg hk hI hpo hat hp1 (by omega) he) he
 ·exact pdo16 k p a0 a1 a2 eb ecap w h ho hg hk hI hpo hat hp1 he
theorem prn_t {s : Syst} {t : St} {k : Nat} (h1 : (ins s t k).op ≠ 1) (h2 : (ins s t k).op ≠ 2) (h6 : ¬ ((ins s t k).op = 6 ∧ t.held.getD (ins s t k).a.toNat [] ≠ [])) (h12 : (ins s t k).op ≠ 12) (h14 : (ins s t k).op ≠ 14) : prn s t k = t.rns:=by
 unfold prn
 rw [if_neg h1,if_neg h2,if_neg h6,if_neg h12,if_neg h14]
theorem nx_o {s : Syst} {t : St} {k : Nat} (h3 : (ins s t k).op ≠ 3) (h4 : (ins s t k).op ≠ 4) (h16 : (ins s t k).op ≠ 16) (h6 : ¬ ((ins s t k).op = 6 ∧ t.held.getD (ins s t k).a.toNat [] = [])) : nx s t k = (Mc.rn t k).pos + 1:=by
 unfold nx
 rw [if_neg h3,if_neg h4,if_neg h16,if_neg h6]
theorem actR (s : Syst) (t : St) (k : Nat) : bad s t k = 0 → (((act s t k).st.rns = prn s t k ∧ nx s t k = (Mc.rn t k).pos + 1) ∨ ∃ y,(act s t k).st.rns = (prn s t k).set k y ∧ prn s t k = t.rns ∧ y.prog = (Mc.rn t k).prog ∧ y.regs = (Mc.rn t k).regs ∧ ((y.ended = (Mc.rn t k).ended ∧ y.pos + 1 = nx s t k) ∨ (y.ended = true ∧ nx s t k = ((pg s (Mc.rn t k).prog).length : Int)))):=by
 intro hb
 by_cases h57 : 5 ≤ (ins s t k).op ∧ (ins s t k).op ≤ 7
 ·have ha : act s t k = chan s t k:=by unfold act;rw [if_pos h57]
  rw [ha];by_cases h5 : (ins s t k).op = 5
  ·rw [prn_t (by omega) (by omega) (fun hh => by have:=hh.1;omega) (by omega) (by omega)]
   by_cases h2 : t.shut.getD (ins s t k).a.toNat false = true
   ·rw [chan5s h5 h2];exact .inl ⟨rfl,nx_o (by omega) (by omega) (by omega) (fun hh => by have:=hh.1;omega)⟩
   ·rw [chan5 h5 h2];exact .inl ⟨rfl,nx_o (by omega) (by omega) (by omega) (fun hh => by have:=hh.1;omega)⟩
  by_cases h6 : (ins s t k).op = 6
  ·by_cases h2 : t.held.getD (ins s t k).a.toNat [] = []
   ·rw [chan6e h6 h2,prn_t (by omega) (by omega) (fun hh => hh.2 h2) (by omega) (by omega)]
    refine .inr ⟨_,rfl,rfl,rfl,rfl,.inl ⟨rfl,?_⟩⟩
    unfold nx;rw [if_neg (by omega),if_neg (by omega),if_neg (by omega),if_pos ⟨h6,h2⟩];show (ins s t k).c - 1 + 1 = _
    omega
   ·have hn:=nx_o (s:=s) (t:=t) (k:=k) (by omega) (by omega) (by omega) (fun hh => h2 hh.2)
    rw [chan6 h6 h2,hn];unfold prn;rw [if_neg (by omega),if_neg (by omega),if_pos ⟨h6,h2⟩];exact .inl ⟨rfl,rfl⟩
  have h7 : (ins s t k).op = 7:=by omega
  rw [prn_t (by omega) (by omega) (fun hh => by have:=hh.1;omega) (by omega) (by omega)]
  by_cases h2 : t.shut.getD (ins s t k).a.toNat false = true
  ·rw [chan7s h7 h2];exact .inl ⟨rfl,nx_o (by omega) (by omega) (by omega) (fun hh => by have:=hh.1;omega)⟩
  ·rw [chan7 h7 h2];exact .inl ⟨rfl,nx_o (by omega) (by omega) (by omega) (fun hh => by have:=hh.1;omega)⟩
 by_cases h815 : 8 ≤ (ins s t k).op ∧ (ins s t k).op ≤ 15
 ·have ha : act s t k = shar s t k:=by unfold act;rw [if_neg h57,if_pos h815]
  rw [bad,ha] at hb;have hn : nx s t k = (Mc.rn t k).pos + 1:=nx_o (by omega) (by omega) (by omega) (fun hh => by have:=hh.1;omega)
  rw [ha,hn];by_cases h12 : (ins s t k).op = 12
  ·have e : (shar s t k).st.rns = setR t k (ins s t k).b (t.cells.getD (cel s t k).toNat 0):=by
    unfold shar;rw [if_neg (by omega),if_neg (by omega),if_neg (by omega),if_pos h12]
   rw [e];unfold prn;rw [if_neg (by omega),if_neg (by omega),if_neg (fun hh => by have:=hh.1;omega),if_pos h12];exact .inl ⟨rfl,rfl⟩
  by_cases h14 : (ins s t k).op = 14
  ·by_cases h2 : 512 ≤ t.rns.length
   ·exfalso
    unfold shar at hb;rw [if_neg (by omega),if_neg (by omega),if_neg (by omega),if_neg (by omega),if_neg (by omega),if_pos h14,if_pos h2] at hb;exact absurd (show (135 : Int) = 0 from hb) (by decide)
   ·have e : (shar s t k).st.rns = t.rns ++ [⟨(ins s t k).a,0,(Mc.rn t k).regs,(pg s (ins s t k).a).isEmpty⟩]:=by
     unfold shar;rw [if_neg (by omega),if_neg (by omega),if_neg (by omega),if_neg (by omega),if_neg (by omega),if_pos h14,if_neg h2]
    rw [e];unfold prn;rw [if_neg (by omega),if_neg (by omega),if_neg (fun hh => by have:=hh.1;omega),if_neg (by omega),if_pos h14];exact .inl ⟨rfl,rfl⟩
  ·rw [prn_t (by omega) (by omega) (fun hh => by have:=hh.1;omega) h12 h14]
   left
   refine ⟨?_,rfl⟩
   unfold shar;repeat' split
   all_goals first | rfl | (exfalso;omega)
 ·have ha : act s t k = ⟨0,0,false,0,{ t with rns:=own s t k }⟩:=by unfold act;rw [if_neg h57,if_neg h815]
  rw [ha];by_cases h1 : (ins s t k).op = 1
  ·have e : own s t k = prn s t k:=by unfold own prn;rw [if_pos h1,if_pos h1]
   exact .inl ⟨e,nx_o (by omega) (by omega) (by omega) (fun hh => by have:=hh.1;omega)⟩
  by_cases h2 : (ins s t k).op = 2
  ·have e : own s t k = prn s t k:=by unfold own prn;rw [if_neg h1,if_pos h2,if_neg h1,if_pos h2]
   exact .inl ⟨e,nx_o (by omega) (by omega) (by omega) (fun hh => by have:=hh.1;omega)⟩
  have hp:=prn_t (s:=s) (t:=t) (k:=k) h1 h2 (fun hh => by have:=hh.1;omega) (by omega) (by omega)
  rw [hp];by_cases h3 : (ins s t k).op = 3
  ·by_cases hlt : reg t k (ins s t k).a < reg t k (ins s t k).b
   ·have e : own s t k = setP t k ((ins s t k).c - 1):=by unfold own;rw [if_neg h1,if_neg h2,if_pos h3,if_pos hlt]
    refine .inr ⟨_,e,rfl,rfl,rfl,.inl ⟨rfl,?_⟩⟩
    unfold nx;rw [if_pos h3,if_pos hlt];show (ins s t k).c - 1 + 1 = _
    omega
   ·have e : own s t k = t.rns:=by unfold own;rw [if_neg h1,if_neg h2,if_pos h3,if_neg hlt]
    refine .inl ⟨e,?_⟩
    unfold nx;rw [if_pos h3,if_neg hlt]
  by_cases h4 : (ins s t k).op = 4
  ·have e : own s t k = setP t k ((ins s t k).c - 1):=by unfold own;rw [if_neg h1,if_neg h2,if_neg h3,if_pos h4]
   refine .inr ⟨_,e,rfl,rfl,rfl,.inl ⟨rfl,?_⟩⟩
   unfold nx;rw [if_neg h3,if_pos h4];show (ins s t k).c - 1 + 1 = _
   omega
  by_cases h16 : (ins s t k).op = 16
  ·have e : own s t k = t.rns.set k { Mc.rn t k with ended:=true }:=by unfold own;rw [if_neg h1,if_neg h2,if_neg h3,if_neg h4,if_pos h16]
   refine .inr ⟨_,e,rfl,rfl,rfl,.inr ⟨rfl,?_⟩⟩
   unfold nx;rw [if_neg h3,if_neg h4,if_pos h16]
  ·have e : own s t k = t.rns:=by unfold own;rw [if_neg h1,if_neg h2,if_neg h3,if_neg h4,if_neg h16]
   exact .inl ⟨e,nx_o h3 h4 h16 (fun hh => by have:=hh.1;omega)⟩
theorem actP (s : Syst) (t : St) (k : Nat) (hb : bad s t k = 0) : prn s t k = t.rns ∨ (∃ r x,prn s t k = setR t k r x) ∨ ∃ r,prn s t k = t.rns ++ [r]:=by
 unfold prn
 repeat' split
 ·exact .inr (.inl ⟨_,_,rfl⟩)
 ·exact .inr (.inl ⟨_,_,rfl⟩)
 ·exact .inr (.inl ⟨_,_,rfl⟩)
 ·exact .inr (.inl ⟨_,_,rfl⟩)
 ·exact .inr (.inr ⟨_,rfl⟩)
 ·exact .inl rfl
theorem prn_k (s : Syst) (t : St) (k : Nat) (hk : k < t.rns.length) (hb : bad s t k = 0) : k < (prn s t k).length ∧ ((prn s t k).getD k r0).prog = (Mc.rn t k).prog ∧ ((prn s t k).getD k r0).pos = (Mc.rn t k).pos ∧ ((prn s t k).getD k r0).ended = (Mc.rn t k).ended:=by
 rcases actP s t k hb with e | ⟨r,x,e⟩ | ⟨r,e⟩ <;> rw [e]
 ·exact ⟨hk,rfl,rfl,rfl⟩
 ·refine ⟨by rw [setR_len];exact hk,?_⟩
  unfold Mc.setR
  rw [rn_set t k k _ hk,if_pos rfl];exact ⟨rfl,rfl,rfl⟩
 ·refine ⟨by simp;omega,?_⟩
  have : (t.rns ++ [r]).getD k r0 = Mc.rn t k:=by rw [Mc.rn,gDQ,List.getElem?_append_left hk,← gDQ]
  rw [this];exact ⟨rfl,rfl,rfl⟩
theorem step_fin {s : Syst} {t : St} {k : Nat} (ho : Mc.Ok s) (hn : Mc.Nm s) (hg : Mc.Good s t) (hk : k < t.rns.length) (hc : Mc.can s t k = true) (hb : bad s t k = 0) (iv : Nat → Value) : ∃ r,Mc.step s t k = { mid s t k with rns:=(prn s t k).set k r } ∧ rpC s iv r = (rpC s iv (Mc.rn (mid s t k) k)).setIfInBounds 1 (.int .i64 (nx s t k)):=by
 have hen:=can_going hc
 obtain ⟨hkp,p1,p2,p3⟩:=prn_k s t k hk hb
 have hmid:=(act_mid ho hn hg hk hc).1
 obtain ⟨y,hy,y1,y2,y3⟩ : ∃ y,(act s t k).st.rns = (prn s t k).set k y ∧ y.prog = (Mc.rn t k).prog ∧ y.regs = ((prn s t k).getD k r0).regs ∧ ((y.ended = false ∧ y.pos + 1 = nx s t k) ∨ (y.ended = true ∧ nx s t k = ((pg s (Mc.rn t k).prog).length : Int))):=by
  rcases actR s t k hb with ⟨e,hx⟩ | ⟨y,e,hp,y1,y2,y3⟩
  ·refine ⟨(prn s t k).getD k r0,?_,p1,rfl,.inl ⟨by rw [p3];exact hen,by rw [p2,hx]⟩⟩
   rw [e,gDQ,List.getElem?_eq_getElem hkp];simp
  ·refine ⟨y,e,y1,by rw [y2,hp];rfl,?_⟩
   rcases y3 with ⟨a,b⟩ | h
   ·exact .inl ⟨by rw [a];exact hen,b⟩
   ·exact .inr h
 have hyk : (act s t k).st.rns.getD k r0 = y:=by rw [hy];exact Mc.getD_set_eq _ _ _ hkp
 have hm2:=hmid.me
 rw [hyk] at hm2
 refine ⟨{ y with pos:=y.pos + 1,ended:=y.ended || decide (((pg s y.prog).length : Int) ≤ y.pos + 1) },?_,?_⟩
 ·unfold Mc.step
  rw [if_neg (by simp [hb])]
  show St.mk _ _ _ _ _ _ _ = St.mk _ _ _ _ _ _ _
  congr 1
  unfold Mc.on
  rw [hyk,hy,List.set_set]
 ·show rpC s iv _ = (rpC s iv ((prn s t k).getD k r0)).setIfInBounds 1 _
  unfold rpC;have ea : aT s { y with pos:=y.pos + 1,ended:=y.ended || decide (((pg s y.prog).length : Int) ≤ y.pos + 1) } = nx s t k:=by
   unfold aT;dsimp only
   rcases y3 with ⟨a,b⟩ | ⟨a,b⟩
   ·rw [a,b]
    have hp2:=hm2.pb
    rw [y1,← b] at *
    by_cases hle : ((pg s (Mc.rn t k).prog).length : Int) ≤ y.pos + 1
    ·simp [hle]
     omega
    ·simp [hle]
   ·rw [a,b,y1]
    rfl
  rw [ea];dsimp only
  rw [y1,y2,p1];rfl
end LW
end Go.Proofs.Ytfbnakmmmphedaa
namespace Go.Proofs.Ytfbnakmmmphedaa
open Go.RowKit
namespace LW
open Mc
def StpQ (o : World) (g : Nat) (s : Syst) (pa : Option Addr) (pc : Nat) (t : St) (m : PV) (k : Nat) : Ending → World → Prop:=fun e w' => ∃ m',SG m m' ∧ PM o w' g s pa pc (Mc.step s t k) m' ∧ ((bad s t k ≠ 0 ∧ e = .panicked (flP (bad s t k))) ∨ (bad s t k = 0 ∧ e = .returned (.tuple #[])))
theorem evinfo : (Try.prog.info? 39).map (fun i => (i.zero,i.size,i.bytes)) = some (some (.agg #[.int .i64 0,.int .i64 0,.int .i64 0,.int .i64 0,.bool false]),5,40):=by kernel_rfl
theorem pstep {o : World} {g : Nat} {s : Syst} {pa : Option Addr} {pc : Nat} {t : St} {m : PV} (k : Nat) (w : World) (h : PM o w g s pa pc t m) (ho : Mc.Ok s) (hn : Mc.Nm s) (hg : Mc.Good s t) (hk : k < t.rns.length) (hc : Mc.can s t k = true) (hel : t.evs.length < 40000) :
  Calls Try.prog 28 #[.pointer (some ⟨g,0,none⟩),.int .i64 (k : Int)] w (StpQ o g s pa pc t m k):=by
 obtain ⟨POST,hP⟩ : ∃ P,P = StpQ o g s pa pc t m k:=⟨_,rfl⟩
 have HPo:=ζ hP
 rw [← hP]
 clear hP
 have hen:=can_going hc
 obtain ⟨rb,rcp,e1,_,xr⟩:=h.rn1 k hk
 have c1:=h.c1
 rw [e1] at c1
 have k1 : (k : Int) < (t.rns.length : Int):=by omega
 have k0 : (0 : Int) ≤ (k : Int):=by omega
 obtain ⟨ib,io,ik,p,ei,ea,hpl,x0,x1,x2,x3⟩:=h.insF hg k hk hen
 have r1_ : w.cell? ⟨m.ps.getD k 0,1,none⟩ = some (.int .i64 (p : Int)):=by rw [← ea];exact (h.at1 k hk).1
 have r0_ : w.cell? ⟨m.ps.getD k 0,0,none⟩ = some (.slice (some ⟨ib,io,none⟩) (pg s (Mc.rn t k).prog).length ik):=by rw [← ei];exact (h.at1 k hk).2
 have p1 : (p : Int) < ((pg s (Mc.rn t k).prog).length : Int):=by omega
 have p0 : (0 : Int) ≤ (p : Int):=by omega
 have HM:=ζ h
 have HEl:=ζ hel
 have HFin : Hid (bad s t k = 0 → ∃ r,Mc.step s t k = { mid s t k with rns:=(prn s t k).set k r } ∧ rpC s m.iv r = (rpC s m.iv (Mc.rn (mid s t k) k)).setIfInBounds 1 (.int .i64 (nx s t k))):=fun hb => step_fin ho hn hg hk hc hb m.iv
 have HBad : Hid (bad s t k ≠ 0 → Mc.step s t k = { t with evs:=t.evs ++ [ev s t k] }):=fun hb => by unfold Mc.step;rw [if_pos hb]
 have HKp : Hid (bad s t k = 0 → k < (prn s t k).length):=fun hb => (prn_k s t k hk hb).1
 have HDo : Hid (∀ (m2 : PV) (eb ecap : Nat) (W : World),PM o W g s pa pc { t with evs:=t.evs ++ [⟨(k : Int),(ins s t k).op,0,0,false⟩] } m2 → m2.ev = .slice (some ⟨eb,0,none⟩) (t.evs.length + 1) ecap → Calls Try.prog 42 #[.pointer (some ⟨g,0,none⟩),.pointer (some ⟨m2.ps.getD k 0,0,none⟩),.agg (insV (ins s t k)),.pointer (some ⟨eb,t.evs.length * 5,none⟩)] W (DoQ o g s pa pc t m2 k)):=fun m2 eb ecap W hW hE => pdo k eb ecap W hW ho hg hk hen hE
 unfold insV at HDo
 obtain ⟨op,hop⟩ : ∃ x,(ins s t k).op = x:=⟨_,rfl⟩
 obtain ⟨a0,ha0⟩ : ∃ x,(ins s t k).a = x:=⟨_,rfl⟩
 obtain ⟨a1,ha1⟩ : ∃ x,(ins s t k).b = x:=⟨_,rfl⟩
 obtain ⟨a2,ha2⟩ : ∃ x,(ins s t k).c = x:=⟨_,rfl⟩
 rw [hop] at x0
 rw [ha0] at x1
 rw [ha1] at x2
 rw [ha2] at x3
 rw [hop,ha0,ha1,ha2] at HDo
 obtain ⟨pk,hpk⟩ : ∃ pk,m.ps.getD k 0 = pk:=⟨_,rfl⟩
 have HPK:=ζ hpk
 rw [hpk] at xr r1_ r0_
 clear h ho hn hg hc hen e1 ei ea hpl hop ha0 ha1 ha2 hpk hel
 generalize (pg s (Mc.rn t k).prog).length = il at *
 obtain ⟨rn_,hrn⟩ : ∃ x,t.rns.length = x:=⟨_,rfl⟩
 rw [hrn] at k1 c1
 clear hrn hk
 go_enter Try.func28,Try.ntmps28
 refine wp_seq_k fun K0 hK0 => ?_
 have HK0:=ζ hK0
 clear hK0
 go_wp2
 refine HK0.out _ _ ?_
 clear HK0 K0 c1 xr
 have HX : Hid (Below w.heap.size w w):=Below.refl _ _
 refine wp_seq_k fun K0 hK0 => ?_
 have HK0:=ζ hK0
 clear hK0
 refine wp_region_noPanic ?_
 refine RG.wp_region_L (fun Z => True) (fun Z => Below w.heap.size w Z) [] (by kernel_rfl) ?_
 refine RG.wpL_any fun Yz16 hY => ?_
 have HTz16 : Hid (Below w.heap.size w Yz16):=by rw [hY];exact below_drewN HX.out 1
 clear hY
 refine RG.wpL_take (fuel:=2) (a':=?Az16) [0,1,2,3,4,5,6,7,8,9] (by kernel_rfl) (by kernel_rfl) (fun _ _ _ _ _ h => h) HTz16.out (fun _ => trivial) ?rz16 ?_
 case rz16 =>
  iterate 3
   refine RG.rW ?_ (fun Z hT => ?_) ?_
   rotate_left
   ·go_simp
    rfl
   simp only [Act.put,lA,lB,lC,lD,lE,lF]
  refine RG.rW (.slice (some ⟨ib,io,none⟩) il ik) (fun Z hT => ?_) ?_
  ·have y0:=keepC hT r0_;have y1:=keepC hT r1_;have q0:=keepC hT x0;have q1:=keepC hT x1;have q2:=keepC hT x2;have q3:=keepC hT x3
   go_simp
  simp only [Act.put,lA,lB,lC,lD,lE,lF]
  iterate 3
   refine RG.rW ?_ (fun Z hT => ?_) ?_
   rotate_left
   ·go_simp
    rfl
   simp only [Act.put,lA,lB,lC,lD,lE,lF]
  refine RG.rW (.int .i64 (p : Int)) (fun Z hT => ?_) ?_
  ·have y0:=keepC hT r0_;have y1:=keepC hT r1_;have q0:=keepC hT x0;have q1:=keepC hT x1;have q2:=keepC hT x2;have q3:=keepC hT x3
   go_simp
  simp only [Act.put,lA,lB,lC,lD,lE,lF]
  refine RG.rW ?_ (fun Z hT => ?_) ?_
  rotate_left
  ·go_simp
   rfl
  simp only [Act.put,lA,lB,lC,lD,lE,lF]
  refine RG.rW (.agg #[.int .i64 op,.int .i64 a0,.int .i64 a1,.int .i64 a2]) (fun Z hT => ?_) ?_
  ·have y0:=keepC hT r0_;have y1:=keepC hT r1_;have q0:=keepC hT x0;have q1:=keepC hT x1;have q2:=keepC hT x2;have q3:=keepC hT x3
   go_simp
  simp only [Act.put,lA,lB,lC,lD,lE,lF]
  exact RG.RunsIf.nil
 have hAl : Below w.heap.size w (Yz16.alloc (.cells #[.int .i64 0,.int .i64 0,.int .i64 0,.int .i64 0] 68)):=HTz16.out.alloc HTz16.out.size _
 have hNz : (Yz16.alloc (.cells #[.int .i64 0,.int .i64 0,.int .i64 0,.int .i64 0] 68)).heap[Yz16.heap.size]? = some (.cells #[.int .i64 0,.int .i64 0,.int .i64 0,.int .i64 0] 68 (0,0)):=heap_alloc_new _ _
 have HAl:=ζ hAl
 have HNz:=ζ hNz
 have hsy:=HTz16.out.size
 have HMy:=ζ (HM.out.below HTz16.out)
 have hby : Below Yz16.heap.size Yz16 ((Yz16.alloc (.cells #[.int .i64 0,.int .i64 0,.int .i64 0,.int .i64 0] 68)).setRow Yz16.heap.size #[.int .i64 op,.int .i64 a0,.int .i64 a1,.int .i64 a2]):=below_setRow ((Below.refl _ _).alloc (Nat.le_refl _) _) (Nat.le_refl _)
 have HMz:=ζ (HMy.out.below hby)
 clear hAl hNz hby HMy
 refine RG.wpL_step (i:=10) (by kernel_rfl) (by rfl) (by rfl) (fun KX hK => ?_)
 have HK:=ζ hK
 clear hK
 go_simp
 refine HK.out _ _ HAl.out (fun _ => trivial) ?_
 clear HK KX HTz16
 generalize Yz16.alloc _ = Ya at *
 generalize Yz16.heap.size = gi at *
 try simp only [Act.put,lA,lB,lC,lD,lE,lF]
 have HNi : Hid ((Ya.setRow gi #[.int .i64 op,.int .i64 a0,.int .i64 a1,.int .i64 a2]).heap[gi]? = some (.cells #[.int .i64 op,.int .i64 a0,.int .i64 a1,.int .i64 a2] 68 (0,0))):=setRow_heap _ _ _ _ _ _ HNz.out
 have HBi : Hid (Below w.heap.size w (Ya.setRow gi #[.int .i64 op,.int .i64 a0,.int .i64 a1,.int .i64 a2])):=below_setRow HAl.out hsy
 refine RG.wpL_step (i:=11) (by kernel_rfl) (by rfl) (by rfl) (fun KX hK => ?_)
 have HK:=ζ hK
 clear hK
 refine wp_store_row 68 _ _ (by rfl) gi #[.int .i64 op,.int .i64 a0,.int .i64 a1,.int .i64 a2] (by rfl) (by rfl) 68 _ HNz.out (by kernel_rfl) (by rfl) (by simp [Value.oneCell']) ?_
 simp only [Act.put,lA,lB,lC,lD,lE,lF]
 refine HK.out _ _ HBi.out (fun _ => trivial) ?_
 clear HK KX HNz HAl HBi
 refine RG.wpL_done (by kernel_rfl) ?_ _
 refine NoPanic.normal ?_
 refine HK0.out _ _ ?_
 clear HK0 K0 HM HX x0 x1 x2 x3 r0_ r1_ hsy
 generalize World.setRow _ _ _ = X at *
 obtain ⟨z0,z1,z2,z3⟩:=cellsY4 HNi.out
 obtain ⟨ea,ec,e6⟩:=own_open13 HMz.out.evs
 have c6:=HMz.out.c6
 rw [e6] at c6
 have HE6:=ζ e6
 clear e6
 obtain ⟨el,hel⟩ : ∃ el,t.evs.length = el:=⟨_,rfl⟩
 have HEL:=ζ hel
 rw [hel] at c6 HEl
 clear hel
 refine wp_seq_k fun K0 hK0 => ?_
 have HK0:=ζ hK0
 clear hK0
 refine wp_region_noPanic ?_
 refine RG.wp_region_L (fun Z => Below X.heap.size X Z) (fun Z => True) [10,13] (by kernel_rfl) ?_
 refine RG.wpL_any fun Yz17 hY => ?_
 have HBz17 : Hid (Below X.heap.size X Yz17):=by rw [hY];exact below_drewN (Below.refl _ _) 1
 clear hY
 refine RG.wpL_take (fuel:=13) (a':=?Az17w) [0] (by kernel_rfl) (by kernel_rfl) (fun _ _ _ _ _ h => h) trivial (fun _ => HBz17.out) ?rz17w ?_
 case rz17w =>
  refine RG.rW ?_ (fun Z hT => ?_) ?_
  rotate_left
  ·go_simp
   rfl
  simp only [Act.put,lA,lB,lC,lD,lE,lF]
  exact RG.RunsIf.nil
 refine RG.wpL_takeS (fuel:=5) (a':=?Az17) [1,2,3,4,5,6,7,8] (by kernel_rfl) (by kernel_rfl) (fun _ _ _ _ _ h => h) trivial (HBz17.out) ?rz17 ?_
 case rz17 =>
  iterate 3
   refine RG.rS ?_ (fun Z hT hS => ?_) ?_
   rotate_left
   ·go_simp
    rfl
   simp only [Act.put,lA,lB,lC,lD,lE,lF]
  refine RG.rS (.slice ea el ec) (fun Z hT hS => ?_) ?_
  ·have y0:=keepC hS z0;have y1:=keepC hS c6
   go_simp
  simp only [Act.put,lA,lB,lC,lD,lE,lF]
  iterate 2
   refine RG.rS ?_ (fun Z hT hS => ?_) ?_
   rotate_left
   ·go_simp
    rfl
   simp only [Act.put,lA,lB,lC,lD,lE,lF]
  refine RG.rS (.int .i64 op) (fun Z hT hS => ?_) ?_
  ·have y0:=keepC hS z0;have y1:=keepC hS c6
   go_simp
  simp only [Act.put,lA,lB,lC,lD,lE,lF]
  refine RG.rS (.agg #[.int .i64 (k : Int),.int .i64 op,.int .i64 0,.int .i64 0,.bool false]) (fun Z hT hS => ?_) ?_
  ·have y0:=keepC hS z0;have y1:=keepC hS c6
   go_simp
  simp only [Act.put,lA,lB,lC,lD,lE,lF]
  exact RG.RunsS.nil
 refine RG.wpL_step (i:=9) (by kernel_rfl) (by rfl) (by rfl) (fun KX hK => ?_)
 have HK:=ζ hK
 clear hK
 go_simp
 have hAb : Below X.heap.size X (Yz17.alloc (.cells #[.int .i64 (k : Int),.int .i64 op,.int .i64 0,.int .i64 0,.bool false] 39)):=HBz17.out.alloc HBz17.out.size _
 have HAb:=ζ hAb
 have HQc : Hid (∀ j u,([.int .i64 (k : Int),.int .i64 op,.int .i64 0,.int .i64 0,.bool false] : List Value)[j]? = some u → (Yz17.alloc (.cells #[.int .i64 (k : Int),.int .i64 op,.int .i64 0,.int .i64 0,.bool false] 39)).cell? ((⟨Yz17.heap.size,0,none⟩ : Addr).add j) = some u):=fun j u hj => by
  rw [Addr.add_mid,Nat.zero_add];exact blk_cell (heap_alloc_new Yz17 _) (by simpa using hj)
 have HMb:=ζ (HMz.out.below hAb)
 have HIb:=ζ (blk_keep HNi.out hAb)
 refine HK.out _ _ trivial (fun _ => HAb.out) ?_
 clear HK KX hAb HBz17 HMz HNi z0 z1 z2 z3 c6
 generalize Yz17.alloc _ = Yb at *
 generalize Yz17.heap.size = gq at *
 try simp only [Act.put,lA,lB,lC,lD,lE,lF]
 refine RG.wpL_late (i:=10) (by kernel_rfl) (by rfl) (by rfl) (by kernel_rfl) (fun KX hK => ?_)
 have HK:=ζ hK
 clear hK
 obtain ⟨ie,hie,hz0,hz1,hz2⟩:=info_parts' evinfo
 have hrow:=HMb.out.evs
 rw [HEL.out,HE6.out] at hrow
 rw [HEL.out] at hrow
 have hel4:=HEl.out
 refine wp_append_own _ _ _ 33 (by rfl) o.heap.size 39 ie _ 5 40 Try.underlying33 hie hz0 hz1 hz2 rfl (by decide) (.slice ea el ec) el (evC t.evs) (by rfl) hrow ⟨gq,0,none⟩ 1 1 [.int .i64 (k : Int),.int .i64 op,.int .i64 0,.int .i64 0,.bool false] (by rfl) rfl HQc.out (by simp [Value.oneCell']) (by unfold maxLen;omega) (by omega) HMb.out.bl.size ?_
 intro v' W5 hown5 hgr5 hne5
 obtain ⟨eb,ecap,rfl⟩ : ∃ b c,v' = .slice (some ⟨b,0,none⟩) (el + 1) c:=by
  rcases hown5.2 with ⟨_,h0⟩ | ⟨b,cap,cur,e,_⟩
  ·omega
  ·exact ⟨b,cap,e⟩
 have hgr6 : Yb.grownBy W5 m.ev.ownBlock:=by rw [HE6.out,HEL.out];exact hgr5
 have nb : ∀ b,b < Yb.heap.size → m.ev.ownBlock ≠ some b → W5.heap[b]? = Yb.heap[b]?:=fun b hb hne => hgr6.block b hb (fun e => hne e.symm)
 have hbg : W5.heap[g]? = Yb.heap[g]?:=nb g (blk_lt HMb.out.blk) (own_neB HMb.out.evs HMb.out.blk (by decide))
 have hbi : W5.heap[gi]? = Yb.heap[gi]?:=nb gi (blk_lt HIb.out) (own_neB HMb.out.evs HIb.out (by decide))
 have hb5 : Below o.heap.size o W5:=HMb.out.bl.grown hgr6 HMb.out.bl.size (own_blkI HMb.out.evs)
 have HM5 : Hid (PM o (W5.setCell ⟨g,6,none⟩ (.slice (some ⟨eb,0,none⟩) (el + 1) ecap)) g s pa pc { t with evs:=t.evs ++ [⟨(k : Int),op,0,0,false⟩] } { m with ev:=.slice (some ⟨eb,0,none⟩) (el + 1) ecap }):=HMb.out.addEv ⟨(k : Int),op,0,0,false⟩ _ (by rw [HEL.out];exact hown5) nb hb5
 have HI5 : Hid ((W5.setCell ⟨g,6,none⟩ (.slice (some ⟨eb,0,none⟩) (el + 1) ecap)).heap[gi]? = some (.cells #[.int .i64 op,.int .i64 a0,.int .i64 a1,.int .i64 a2] 68 (0,0))):=blk_setN (by rw [hbi];exact HIb.out) (by rw [hbg];exact HMb.out.blk) (by decide)
 have cz : ∃ z,W5.cell? ⟨g,6,none⟩ = some z:=⟨_,by rw [cell_of hbg];exact HMb.out.c6⟩
 obtain ⟨zz,cz⟩:=cz
 have fz : W5.frozen? ⟨g,6,none⟩ = false:=by simp [World.frozen?,hbg,HMb.out.blk]
 clear hown5 hgr5 hgr6 hne5 hbg hbi hb5 nb HMb HIb HQc hrow hie hz0 hz1 hz2 hel4 HAb
 refine HK.out _ _ trivial ?_
 clear HK KX
 try simp only [Act.put,lA,lB,lC,lD,lE,lF]
 refine RG.wpL_take (fuel:=1) (a':=?Az18) [11,12] (by kernel_rfl) (by kernel_rfl) (fun _ _ _ _ _ h => h) trivial (fun h => by cases (show false = true from h)) ?rz18 ?_
 case rz18 =>
  iterate 2
   refine RG.rW ?_ (fun Z hT => ?_) ?_
   rotate_left
   ·go_simp
    rfl
   simp only [Act.put,lA,lB,lC,lD,lE,lF]
  exact RG.RunsIf.nil
 refine RG.wpL_late (i:=13) (by kernel_rfl) (by rfl) (by rfl) (by kernel_rfl) (fun KX hK => ?_)
 have HK:=ζ hK
 clear hK
 go_simp
 refine HK.out _ _ trivial ?_
 clear HK KX cz fz
 refine RG.wpL_done (by kernel_rfl) ?_ _
 refine NoPanic.normal ?_
 refine HK0.out _ _ ?_
 clear HK0 K0
 generalize World.setCell _ _ _ = X2 at *
 obtain ⟨z0,z1,z2,z3⟩:=cellsY4 HI5.out
 have c6:=HM5.out.c6
 change X2.cell? _ = some (.slice (some ⟨eb,0,none⟩) (el + 1) ecap) at c6
 have ew : IntKind.i64.wrap (((el + 1 : Nat) : Int) - 1) = (el : Int):=by rw [IntKind.wrap_i64];have:=HEl.out;omega
 have e1_ : (el : Int) < ((el + 1 : Nat) : Int):=by omega
 have e0_ : (0 : Int) ≤ (el : Int):=by omega
 have HCd : Hid (∀ W,Below X2.heap.size X2 W → Calls Try.prog 42 #[.pointer (some ⟨g,0,none⟩),.pointer (some ⟨pk,0,none⟩),.agg #[.int .i64 op,.int .i64 a0,.int .i64 a1,.int .i64 a2],.pointer (some ⟨eb,el * 5,none⟩)] W (DoQ o g s pa pc t { m with ev:=.slice (some ⟨eb,0,none⟩) (el + 1) ecap } k)):=fun W hW => by
  have:=HDo.out { m with ev:=.slice (some ⟨eb,0,none⟩) (el + 1) ecap } eb ecap W (HM5.out.below hW) (by rw [HEL.out])
  rw [HEL.out] at this;change Calls _ _ #[_,.pointer (some ⟨m.ps.getD k 0,0,none⟩),_,_] _ _ at this
  rw [HPK.out] at this;exact this
 obtain ⟨en,hen⟩ : ∃ en,el + 1 = en:=⟨_,rfl⟩
 rw [hen] at c6 ew e1_
 clear hen
 refine wp_pan (fun ch w => POST (.panicked ch) w) (fun ch a w hd hr => ⟨hd,hr⟩) ?_
 refine RG.wp_region_L (fun Z => Below X2.heap.size X2 Z) (fun Z => True) [15,18] (by kernel_rfl) ?_
 refine RG.wpL_any fun Yz19 hY => ?_
 have HBz19 : Hid (Below X2.heap.size X2 Yz19):=by rw [hY];exact below_drewN (Below.refl _ _) 1
 clear hY
 refine RG.wpL_take (fuel:=18) (a':=?Az19w) [0] (by kernel_rfl) (by kernel_rfl) pan_put trivial (fun _ => HBz19.out) ?rz19w ?_
 case rz19w =>
  refine RG.rW ?_ (fun Z hT => ?_) ?_
  rotate_left
  ·go_simp
   rfl
  simp only [Act.put,lA,lB,lC,lD,lE,lF]
  exact RG.RunsIf.nil
 refine RG.wpL_takeS (fuel:=4) (a':=?Az19) [1,2,3,4,5,6,7,8,9,10,11,12,13,14] (by kernel_rfl) (by kernel_rfl) pan_put trivial (HBz19.out) ?rz19 ?_
 case rz19 =>
  iterate 2
   refine RG.rS ?_ (fun Z hT hS => ?_) ?_
   rotate_left
   ·go_simp
    rfl
   simp only [Act.put,lA,lB,lC,lD,lE,lF]
  refine RG.rS (.agg #[.int .i64 op,.int .i64 a0,.int .i64 a1,.int .i64 a2]) (fun Z hT hS => ?_) ?_
  ·have y0:=keepC hS z0;have y1:=keepC hS z1;have y2:=keepC hS z2;have y3:=keepC hS z3;have y6:=keepC hS c6
   go_simp
  simp only [Act.put,lA,lB,lC,lD,lE,lF]
  iterate 3
   refine RG.rS ?_ (fun Z hT hS => ?_) ?_
   rotate_left
   ·go_simp
    rfl
   simp only [Act.put,lA,lB,lC,lD,lE,lF]
  refine RG.rS (.slice (some ⟨eb,0,none⟩) en ecap) (fun Z hT hS => ?_) ?_
  ·have y0:=keepC hS z0;have y1:=keepC hS z1;have y2:=keepC hS z2;have y3:=keepC hS z3;have y6:=keepC hS c6
   go_simp
  simp only [Act.put,lA,lB,lC,lD,lE,lF]
  iterate 3
   refine RG.rS ?_ (fun Z hT hS => ?_) ?_
   rotate_left
   ·go_simp
    rfl
   simp only [Act.put,lA,lB,lC,lD,lE,lF]
  refine RG.rS (.slice (some ⟨eb,0,none⟩) en ecap) (fun Z hT hS => ?_) ?_
  ·have y0:=keepC hS z0;have y1:=keepC hS z1;have y2:=keepC hS z2;have y3:=keepC hS z3;have y6:=keepC hS c6
   go_simp
  simp only [Act.put,lA,lB,lC,lD,lE,lF]
  refine RG.rS ?_ (fun Z hT hS => ?_) ?_
  rotate_left
  ·go_simp
   rfl
  simp only [Act.put,lA,lB,lC,lD,lE,lF]
  refine RG.rS (.int .i64 (el : Int)) (fun Z hT hS => ?_) ?_
  ·have y0:=keepC hS z0;have y1:=keepC hS z1;have y2:=keepC hS z2;have y3:=keepC hS z3;have y6:=keepC hS c6
   go_simp
  simp only [Act.put,lA,lB,lC,lD,lE,lF]
  refine RG.rS ?_ (fun Z hT hS => ?_) ?_
  rotate_left
  ·go_simp
   rfl
  simp only [Act.put,lA,lB,lC,lD,lE,lF]
  exact RG.RunsS.nil
 refine RG.wpL_late (i:=15) (by kernel_rfl) (by rfl) (by rfl) (by kernel_rfl) (fun KX hK => ?_)
 have HK:=ζ hK
 clear hK
 go_simp
 refine (HCd.out _ HBz19.out).mono ?_
 rintro e_ w_ ⟨m',hsg,hps,⟨hb,rfl,hM⟩ | ⟨hb,rfl,hM⟩⟩
 ·refine ⟨rfl,?_⟩
  rw [HPo.out];refine ⟨m',⟨hsg.b,hsg.x,hsg.e,hsg.y,hsg.i⟩,?_,.inl ⟨hb,rfl⟩⟩
  rw [HBad.out hb];exact hM
 ·have HM6:=ζ hM
  have HSG : Hid (SG m m'):=⟨hsg.b,hsg.x,hsg.e,hsg.y,hsg.i⟩
  have HPS : Hid (m'.ps.getD k 0 = pk):=hps.trans HPK.out
  have HB0:=ζ hb
  obtain ⟨r,hr1,hr2⟩:=HFin.out hb
  have hkl : k < (mid s t k).rns.length:=HKp.out hb
  have hiv : m'.iv = m.iv:=hsg.i
  have HM7 : Hid (PM o (w_.setCell ⟨pk,1,none⟩ (.int .i64 (nx s t k))) g s pa pc (Mc.step s t k) m'):=by
   have:=HM6.out.setRn k hkl r 1 (.int .i64 (nx s t k)) (by rw [hiv];exact hr2)
   rw [HPS.out] at this;rw [hr1];exact this
  have cz:=(HM6.out.at1 k hkl).1
  have fz:=HM6.out.rfz k hkl 1
  rw [HPS.out] at cz fz;obtain ⟨av,hav⟩ : ∃ av,aT s (Mc.rn (mid s t k) k) = av:=⟨_,rfl⟩
  rw [hav] at cz;obtain ⟨nv,hnv⟩ : ∃ nv,nx s t k = nv:=⟨_,rfl⟩
  rw [hnv] at HM7 ⊢;clear hM hsg hps hb hr1 hr2 hkl hiv hav hnv HM6 z0 z1 z2 z3 c6;refine HK.out _ _ trivial ?_
  clear HK KX;try simp only [Act.put,lA,lB,lC,lD,lE,lF]
  refine RG.wpL_take (fuel:=1) (a':=?Az20) [16,17] (by kernel_rfl) (by kernel_rfl) pan_put trivial (fun h => by cases (show false = true from h)) ?rz20 ?_
  case rz20 =>
   iterate 2
    refine RG.rW ?_ (fun Z hT => ?_) ?_
    rotate_left
    ·go_simp
     rfl
    simp only [Act.put,lA,lB,lC,lD,lE,lF]
   exact RG.RunsIf.nil
  refine RG.wpL_late (i:=18) (by kernel_rfl) (by rfl) (by rfl) (by kernel_rfl) (fun KX hK => ?_)
  have HK:=ζ hK
  clear hK;go_simp;refine HK.out _ _ trivial ?_
  clear HK KX cz fz;refine RG.wpL_done (by kernel_rfl) ?_ _
  show bodyPost _ _ _ .normal _ _
  go_end0
  rw [HPo.out];exact ⟨m',HSG.out,HM7.out,.inr ⟨HB0.out,rfl⟩⟩
end LW
end Go.Proofs.Ytfbnakmmmphedaa
namespace Go.Proofs.Ytfbnakmmmphedaa
open Go.RowKit
namespace LW
open Mc
theorem assertF (X : Value) (w : World) : (Instr.typeAssert (.iface 77 X) 20 77 false).run Try.prog w = .ok X w:=by kernel_rfl
theorem fieldF (why : Int) (w : World) : (Instr.field 77 (.agg #[.int .i64 why]) 0).run Try.prog w = .ok (.int .i64 why) w:=by kernel_rfl
theorem caughtR {o : World} {g : Nat} {s : Syst} {pa : Option Addr} {pc : Nat} {t : St} {m : PV} (q6 q7 : Nat) (why : Int) (w : World) (h : PM o w g s pa pc t m) (h6 : m.gb = some q6) (h7 : m.ge = some q7) :
  CallsD Try.prog 25 #[.pointer (some ⟨q6,0,none⟩),.pointer (some ⟨q7,0,none⟩)] (.panicking (flP why)) w fun e u' w' => e = .returned (.tuple #[]) ∧ u' = .panicking [{ v:=.iface 77 (.agg #[.int .i64 why]),recovered:=true }] ∧ PM o w' g s pa pc t { m with gx:=3,gy:=why }:=by
 have hta:=assertF (.agg #[.int .i64 why])
 have hfd:=fieldF why
 have HM:=ζ h
 refine callsD_of_wpS Try.func25 rfl fun c₀ cs' hu => ?_
 apply wpS_seq
 apply wpS_region
 simp [wpOpsS,go_sem,recoverD,hu,Try.ntmps25,Exit.thenS]
 apply wpS_seq
 apply wpS_region
 simp [wpOpsS,go_sem,recoverD,hu,Try.ntmps25,Exit.thenS]
 refine wpS_cond (t:=true) (by simp [Act.eval,Array.replicate]) ?_
 simp only [if_true]
 refine wpS_of_wp ?_
 change Code.wp _ _ _ { tmps:=#[.pointer (some ⟨q6,0,none⟩),.pointer (some ⟨q7,0,none⟩),(.iface 77 (.agg #[.int .i64 why])),(.iface 77 (.agg #[.int .i64 why])),(.iface 77 (.agg #[.int .i64 why])),.bool true,undef,undef,undef],defers:=[] } _
 clear h
 refine wp_region_noPanic ?_
 refine RG.wp_region_L (fun Z => True) (fun Z => True) [] (by kernel_rfl) ?_
 refine RG.wpL_any fun Y hY => ?_
 have HMy : Hid (PM o Y g s pa pc t m):=by rw [hY];exact HM.out.below (below_drewN (Below.refl _ _) 1)
 clear hY HM
 refine RG.wpL_take (fuel:=2) (a':=?Az21) [0,1,2] (by kernel_rfl) (by kernel_rfl) (fun _ _ _ _ _ h => h) trivial (fun _ => trivial) ?rz21 ?_
 case rz21 =>
  iterate 2
   refine RG.rW ?_ (fun Z hT => ?_) ?_
   rotate_left
   ·go_simp
    rfl
   simp only [Act.put,lA,lB,lC,lD,lE,lF]
  refine RG.rW (.int .i64 why) (fun Z hT => ?_) ?_
  ·go_simp
  simp only [Act.put,lA,lB,lC,lD,lE,lF]
  exact RG.RunsIf.nil
 have ca:=blk_cell (i:=0) (HMy.out.gst q6 h6).1 rfl
 have fa : Y.frozen? ⟨q6,0,none⟩ = false:=by simp [World.frozen?,(HMy.out.gst q6 h6).1]
 have HM1:=ζ (HMy.out.setG h6 3)
 refine RG.wpL_step (i:=3) (by kernel_rfl) (by rfl) (by rfl) (fun KX hK => ?_)
 have HK:=ζ hK
 clear hK
 go_simp
 refine HK.out _ _ trivial (fun _ => trivial) ?_
 clear HK KX
 clear ca fa HMy
 generalize World.setCell _ _ _ = V1 at *
 have ca:=blk_cell (i:=0) (HM1.out.gse q7 h7).1 rfl
 have fa : V1.frozen? ⟨q7,0,none⟩ = false:=by simp [World.frozen?,(HM1.out.gse q7 h7).1]
 have HM2:=ζ (HM1.out.setE h7 why)
 refine RG.wpL_step (i:=4) (by kernel_rfl) (by rfl) (by rfl) (fun KX hK => ?_)
 have HK:=ζ hK
 clear hK
 go_simp
 refine HK.out _ _ trivial (fun _ => trivial) ?_
 clear HK KX
 clear ca fa HM1
 generalize World.setCell _ _ _ = V2 at *
 refine RG.wpL_done (by kernel_rfl) ?_ _
 refine NoPanic.normal ?_
 cases c₀
 simp [bodyPostS,results,Try.results25]
 exact HM2.out
theorem idleR (p0 p1 : Value) (w : World) :
  CallsD Try.prog 25 #[p0,p1] .returning w fun e u' w' => e = .returned (.tuple #[]) ∧ u' = .returning ∧ w' = w:=by
 refine callsD_of_wpS Try.func25 rfl fun c₀ cs hu => ?_
 apply wpS_seq
 apply wpS_region
 simp [wpOpsS,go_sem,recoverD,hu,Try.ntmps25,Exit.thenS]
 apply wpS_seq
 apply wpS_region
 simp [wpOpsS,go_sem,recoverD,hu,Try.ntmps25,Exit.thenS]
 refine wpS_cond (t:=false) (by simp [Act.eval,Array.replicate]) ?_
 simp only [Bool.false_eq_true,if_false]
 refine wpS_of_wp (wp_skip ?_)
 cases c₀
 simp_all [bodyPostS,results,Try.results25]
theorem results_run (tmps : Array Value) (w : World) (q6 q7 : Nat) (x y : Int) (h6 : tmps.getD 6 undef = .pointer (some ⟨q6,0,none⟩)) (h7 : tmps.getD 7 undef = .pointer (some ⟨q7,0,none⟩)) (c0 : w.cell? ⟨q6,0,none⟩ = some (.int .i64 x)) (c1 : w.cell? ⟨q7,0,none⟩ = some (.int .i64 y)) :
  (results Try.f14 tmps).run Try.prog w = .ok (.tuple #[.int .i64 x,.int .i64 y]) w:=by
 have h6' : tmps[6]?.getD undef = .pointer (some ⟨q6,0,none⟩):=by simpa using h6
 have h7' : tmps[7]?.getD undef = .pointer (some ⟨q7,0,none⟩):=by simpa using h7
 have r0 : (loadVar 3 ⟨q6,0,none⟩).run Try.prog w = .ok (.int .i64 x) w:=by simp [go_sem,c0]
 have r1 : (loadVar 26 ⟨q7,0,none⟩).run Try.prog w = .ok (.int .i64 y) w:=by simp [go_sem,c1]
 simp [results,Try.results14,h6',h7',asAddr,r0,r1]
theorem gaveUpR {o : World} {g : Nat} {s : Syst} {pa : Option Addr} {pc : Nat} {t : St} {m : PV} (q6 q7 : Nat) (why : Int) (V : World) (h : PM o V g s pa pc t m) (h6 : m.gb = some q6) (h7 : m.ge = some q7) (tmps : Array Value) (e6 : tmps.getD 6 undef = .pointer (some ⟨q6,0,none⟩)) (e7 : tmps.getD 7 undef = .pointer (some ⟨q7,0,none⟩)) (R : Ending → World → Prop)
  (hR : ∀ w',PM o w' g s pa pc t { m with gx:=3,gy:=why } → R (.returned (.tuple #[.int .i64 3,.int .i64 why])) w') :
  Leaves Try.prog Try.f14 tmps R [{ target:=.fn (.func 25) #[.pointer (some ⟨q6,0,none⟩),.pointer (some ⟨q7,0,none⟩)],args:=#[] }] (.panicking (flP why)) V:=by
 refine leaves_cons (f:=25) (args:=#[.pointer (some ⟨q6,0,none⟩),.pointer (some ⟨q7,0,none⟩)]) (by simp) (by simp [go_sem]) ?_
 refine (caughtR q6 q7 why V h h6 h7).mono ?_
 rintro e u' w'' ⟨rfl,rfl,hM⟩
 refine ⟨_,results_run _ w'' q6 q7 3 why e6 e7 (blk_cell (i:=0) (hM.gst q6 h6).1 rfl) (blk_cell (i:=0) (hM.gse q7 h7).1 rfl),?_⟩
 exact hR _ hM
theorem endsR {o : World} {g : Nat} {s : Syst} {pa : Option Addr} {pc : Nat} {t : St} {m : PV} (q6 q7 : Nat) (V : World) (h : PM o V g s pa pc t m) (h6 : m.gb = some q6) (h7 : m.ge = some q7) (tmps : Array Value) (e6 : tmps.getD 6 undef = .pointer (some ⟨q6,0,none⟩)) (e7 : tmps.getD 7 undef = .pointer (some ⟨q7,0,none⟩)) (R : Ending → World → Prop)
  (hR : R (.returned (.tuple #[.int .i64 m.gx,.int .i64 m.gy])) V) :
  Leaves Try.prog Try.f14 tmps R [{ target:=.fn (.func 25) #[.pointer (some ⟨q6,0,none⟩),.pointer (some ⟨q7,0,none⟩)],args:=#[] }] .returning V:=by
 refine leaves_cons (f:=25) (args:=#[.pointer (some ⟨q6,0,none⟩),.pointer (some ⟨q7,0,none⟩)]) (by simp) (by simp [go_sem]) ?_
 refine (idleR _ _ V).mono ?_
 rintro e u' w'' ⟨rfl,rfl,rfl⟩
 exact ⟨_,results_run _ w'' q6 q7 _ _ e6 e7 (blk_cell (i:=0) (h.gst q6 h6).1 rfl) (blk_cell (i:=0) (h.gse q7 h7).1 rfl),hR⟩
theorem PM.guests {o W : World} {g : Nat} {s : Syst} {pa : Option Addr} {pc : Nat} {t : St} {m : PV} (h : PM o W g s pa pc t m) {W' : World} (hb : Below W.heap.size W W') (q6 q7 : Nat) (x y : Int) (k6 : W'.heap[q6]? = some (.cells #[.int .i64 x] 3 (0,0))) (k7 : W'.heap[q7]? = some (.cells #[.int .i64 y] 26 (0,0))) (l6 : W.heap.size ≤ q6) (l7 : W.heap.size ≤ q7) (hg : m.gb = none) : PM o W' g s pa pc t { m with gb:=some q6,gx:=x,ge:=some q7,gy:=y }:=by
 have h':=h.below hb
 have hs:=h.bl.size
 refine ⟨h'.bl,h'.pr,h'.gB,h'.blk,h'.rns,h'.rnB,h'.rnG,h'.rnD,h'.chs,h'.qus,h'.qB,h'.lck,h'.grp,h'.cel,h'.lst,h'.evs,fun p hp => ?_,fun p hp => ?_,fun i j b hi hj => ?_⟩
 ·have : q6 = p:=by simpa using hp
  subst this;exact ⟨k6,by omega⟩
 ·have : q7 = p:=by simpa using hp
  subst this;exact ⟨k7,by omega⟩
 ·have key : ∀ i b,obk { m with gb:=some q6,gx:=x,ge:=some q7,gy:=y } i = some b → (i ≠ 3 ∧ obk m i = some b) ∨ (i = 3 ∧ b = q6):=by
   intro i b hb
   match i,hb with
   | 0,hb => exact .inl ⟨by decide,hb⟩
   | 1,hb => exact .inl ⟨by decide,hb⟩
   | 2,hb => exact .inl ⟨by decide,hb⟩
   | 3,hb => exact .inr ⟨rfl,by have : q6 = b:=(by simpa [obk] using hb);exact this.symm⟩
   | c + 4,hb => exact .inl ⟨by omega,hb⟩
  rcases key i b hi with ⟨a1,a2⟩ | ⟨a1,a2⟩ <;> rcases key j b hj with ⟨c1,c2⟩ | ⟨c1,c2⟩
  ·exact h.dis i j b a2 c2
  ·have:=h.obI i b a2;omega
  ·have:=h.obI j b c2;omega
  ·omega
end LW
end Go.Proofs.Ytfbnakmmmphedaa
namespace Go.Proofs.Ytfbnakmmmphedaa
open Go.RowKit
namespace LW
open Mc
theorem run_fin {s : Syst} {picks : List Int} {f : Nat} {t : St} (h : fin s t ≠ 0) : Mc.run s picks (f + 1) t = (fin s t,0,t):=by rw [Mc.run,if_pos h]
theorem run_bad {s : Syst} {picks : List Int} {f : Nat} {t : St} (h : fin s t = 0) (hb : bad s t (turn s picks t) ≠ 0) : Mc.run s picks (f + 1) t = (3,bad s t (turn s picks t),Mc.step s t (turn s picks t)):=by rw [Mc.run,if_neg (by simp [h]),if_pos hb]
theorem run_on {s : Syst} {picks : List Int} {f : Nat} {t : St} (h : fin s t = 0) (hb : bad s t (turn s picks t) = 0) : Mc.run s picks (f + 1) t = Mc.run s picks f (Mc.step s t (turn s picks t)):=by rw [Mc.run,if_neg (by simp [h]),if_neg (by simp [hb])]
def RunQ (o : World) (g : Nat) (s : Syst) (pa : Option Addr) (pc : Nat) (picks : List Int) : Ending → World → Prop:=fun e w' => ∃ t' m',e = .returned (.tuple #[.int .i64 (Mc.play s picks).1,.int .i64 (Mc.play s picks).2.1]) ∧ (Mc.play s picks).2.2 = t' ∧ PM o w' g s pa pc t' m'
theorem prun {o : World} {g : Nat} {s : Syst} {pa : Option Addr} {pc : Nat} {t : St} {m : PV} (pka : Option Addr) (pkc : Nat) (picks : List Int) (w : World) (h : PM o w g s pa pc (Mc.first s) m) (hgb : m.gb = none) (ho : Mc.Ok s) (hn : Mc.Nm s) (hp : NR o pka picks) (hpl : picks.length ≤ 9223372036854775807) (hpi : ∀ j,i64 (picks.getD j 0)) :
  Calls Try.prog 14 #[.pointer (some ⟨g,0,none⟩),.slice pka picks.length pkc,.int .i64 40001] w (RunQ o g s pa pc picks):=by
 have hmf : ∀ (fn : Fn) (first cap : Array Value) (w : World),(Instr.makeFunc fn first cap).run Try.prog w = .ok (.func fn first cap) w:=fun _ _ _ _ => rfl
 obtain ⟨POST,hP⟩ : ∃ P,P = RunQ o g s pa pc picks:=⟨_,rfl⟩
 have HPo:=ζ hP
 rw [← hP]
 clear hP
 have hb0 : Below w.heap.size w ((w.alloc (.cells #[.int .i64 0] 3)).alloc (.cells #[.int .i64 0] 26)):=((Below.refl _ _).alloc (Nat.le_refl _) _).alloc (by simp) _
 have k6 : ((w.alloc (.cells #[.int .i64 0] 3)).alloc (.cells #[.int .i64 0] 26)).heap[w.heap.size]? = some (.cells #[.int .i64 0] 3 (0,0)):=blk_alloc (heap_alloc_new w _)
 have k7 : ((w.alloc (.cells #[.int .i64 0] 3)).alloc (.cells #[.int .i64 0] 26)).heap[w.heap.size + 1]? = some (.cells #[.int .i64 0] 26 (0,0)):=by
  have h1:=heap_alloc_new (w.alloc (.cells #[.int .i64 0] 3)) (.cells #[.int .i64 0] 26)
  have h2 : (w.alloc (.cells #[.int .i64 0] 3)).heap.size = w.heap.size + 1:=by simp
  rw [h2] at h1;exact h1
 have HM0:=ζ (h.guests hb0 _ _ 0 0 k6 k7 (Nat.le_refl _) (by omega) hgb)
 have HOk:=ζ ho
 have HNm:=ζ hn
 have HPk:=ζ hp
 have HPi:=ζ hpi
 clear hb0 k6 k7 h hgb ho hn hp hpi
 go_enter_defers Try.func14,Try.ntmps14
 refine wp_seq_k fun K0 hK0 => ?_
 have HK0:=ζ hK0
 clear hK0
 go_wp2
 refine HK0.out _ _ ?_
 clear HK0 K0
 generalize World.alloc _ _ = X at *
 generalize w.heap.size + 1 = q7 at *
 generalize w.heap.size = q6 at *
 refine wp_seq_k fun K0 hK0 => ?_
 have HK0:=ζ hK0
 clear hK0
 go_wp2
 refine HK0.out _ _ ?_
 clear HK0 K0 hmf
 have HS0 : Hid (0 = (Mc.first s).evs.length ∧ Mc.Good s (Mc.first s) ∧ Mc.play s picks = Mc.run s picks (40001 - 0) (Mc.first s)):=⟨rfl,good_first HOk.out,rfl⟩
 refine wp_seq_k fun K0 hK0 => ?_
 have HK0:=ζ hK0
 clear hK0
 go_wp2
 go_loopw [13] (fun n wr => ∃ (k : Nat) (t : St) (m2 : PV),n = .int .i64 (k : Int) ∧ k ≤ 40001 ∧ Hid (PM o wr g s pa pc t m2) ∧ Hid (m2.gb = some q6) ∧ Hid (m2.ge = some q7) ∧ Hid (k = t.evs.length ∧ Mc.Good s t ∧ Mc.play s picks = Mc.run s picks (40001 - k) t)) (fun n _ => 40002 - (intOf n).toNat)
 case atStart => exact ⟨0,_,_,rfl,by omega,HM0,ζ rfl,ζ rfl,HS0⟩
 case round =>
  clear HM0 HS0;obtain ⟨k,t,m2,rfl,hk,HM,HGb,HGe,HSt⟩:=hrel
  have hk4 : k ≤ 40000:=by have:=HSt.out.2.1.el;have:=HSt.out.1;omega
  have hki : (k : Int) < 40001:=by omega
  have hGd:=HSt.out.2.1
  have hRn : (Mc.ready s t).length ≤ 512:=Nat.le_trans (ready_len s t) hGd.r2
  have HC1:=ζ (pready wr HM.out HOk.out hGd)
  have HGd:=ζ hGd
  clear hGd;refine wp_seq_k fun Ka hKa => ?_
  have HKa:=ζ hKa
  clear hKa;go_wp2;refine HKa.out _ _ ?_;clear HKa Ka;refine wp_seq_k fun Kb hKb => ?_
  have HKb:=ζ hKb
  clear hKb;go_wp2;refine HKb.out _ _ ?_;clear HKb Kb;refine wp_seq_k fun Kd hKd => ?_
  have HKd:=ζ hKd
  clear hKd;refine wp_block ?_;refine wp_seq_k fun Ke hKe => ?_
  have HKe:=ζ hKe
  clear hKe;go_wp2;refine HKe.out _ _ ?_;clear HKe Ke;refine wp_seq_k fun Kf hKf => ?_
  have HKf:=ζ hKf
  clear hKf;go_wp2_with fail
  refine HC1.out.mono ?_
  rintro e1 w1 ⟨v,rfl,hM1⟩
  obtain ⟨la,lc,ev⟩:=own_open13 hM1.lst
  change v = .slice la (Mc.ready s t).length lc at ev
  subst ev;have HM1:=ζ hM1
  have HC2:=ζ (pends la lc (Mc.ready s t).length w1 hM1 HGd.out rfl)
  have HTn : Hid (turn s picks t = (Mc.ready s t).getD (if t.evs.length < picks.length then (rest (picks.getD t.evs.length 0) (Mc.ready s t).length).toNat else 0) 0):=rfl
  have HRp : Hid (Mc.fin s t = 0 → 0 < (Mc.ready s t).length):=fun h => fin_ready h
  have HRL : Hid (∀ pi,pi < (Mc.ready s t).length → (natV (Mc.ready s t))[pi]? = some (.int .i64 (((Mc.ready s t).getD pi 0 : Nat) : Int))):=fun pi hpi => by
   unfold natV;rw [List.getElem?_map,List.getElem?_eq_getElem hpi,List.getD_eq_getElem?_getD,List.getElem?_eq_getElem hpi];rfl
  clear hM1 HC1 HM;generalize hRr : (Mc.ready s t).length = R at *;go_wp2;refine HKf.out _ _ ?_;clear HKf Kf;refine wp_seq_k fun Kg hKg => ?_
  have HKg:=ζ hKg
  clear hKg;refine wp_seq_k fun Kh hKh => ?_
  have HKh:=ζ hKh
  clear hKh;go_wp2_with fail
  refine HC2.out.mono ?_
  rintro e2 w2 ⟨rfl,hb⟩
  have HM2:=ζ (HM1.out.below hb)
  clear hb HM1 HC2;have d0 : w2.cell? ⟨q6,0,none⟩ = some (.int .i64 m2.gx):=blk_cell (i:=0) (HM2.out.gst q6 HGb.out).1 rfl
  have f0 : w2.frozen? ⟨q6,0,none⟩ = false:=by simp [World.frozen?,(HM2.out.gst q6 HGb.out).1]
  have HM3:=ζ (HM2.out.setG HGb.out (Mc.fin s t))
  go_wp2;refine HKh.out _ _ ?_;clear HKh Kh;clear d0 f0 HM2;generalize World.setCell _ _ _ = W3 at *;have d0 : W3.cell? ⟨q6,0,none⟩ = some (.int .i64 (Mc.fin s t)):=blk_cell (i:=0) (HM3.out.gst q6 HGb.out).1 rfl
  by_cases hf : Mc.fin s t = 0
  ·have HF0:=ζ hf
   have hR0:=HRp.out hf
   rw [hf] at d0 HM3;clear hf HRp;go_wp2;refine HKg.out _ _ ?_;clear HKg Kg;refine wp_seq_k fun Ki hKi => ?_
   have HKi:=ζ hKi
   clear hKi;go_wp2;refine HKi.out _ _ ?_;clear HKi Ki;clear d0;have HLs:=ζ HM3.out.lst
   change Hid (World.ownsRow _ _ _ _ (.slice la R lc) _ _) at HLs
   rw [show ({ m2 with nv:=.slice la R lc,nn:=Mc.ready s t,gx:=0 } : PV).nn.length = R from hRr] at HLs;obtain ⟨lb,rfl⟩ : ∃ lb,la = some ⟨lb,0,none⟩:=by
    obtain ⟨b,cap,e,_⟩:=own_rd HLs.out hR0
    injection e with e1
    exact ⟨b,e1⟩
   have HCS:=ζ (pstep (turn s picks t) W3 HM3.out HOk.out HNm.out HGd.out (turn_ok HF0.out).1 (turn_ok HF0.out).2 (fin_len HF0.out))
   by_cases hn : k < picks.length
   ·have hn1 : (k : Int) < (picks.length : Int):=by omega
    have hn0 : (0 : Int) ≤ (k : Int):=by omega
    obtain ⟨kb,ko,rfl,xk⟩ : ∃ kb ko,pka = some ⟨kb,ko,none⟩ ∧ W3.cell? ⟨kb,ko + k,none⟩ = some (.int .i64 (picks.getD k 0)):=by
     rcases HPk.out with h | ⟨b,off,e,hq⟩
     ·rw [h] at hn;simp at hn
     ·exact ⟨b,off,e,keepC HM3.out.bl (hq k hn)⟩
    obtain ⟨pi,hpi,hpl_⟩ : ∃ pi : Nat,rest (picks.getD k 0) R = (pi : Int) ∧ pi < R:=by
     have h1:=Int.emod_nonneg (picks.getD k 0) (show (R : Int) ≠ 0 by omega)
     have h2:=Int.emod_lt_of_pos (picks.getD k 0) (show (0 : Int) < R by omega)
     exact ⟨(rest (picks.getD k 0) R).toNat,by unfold rest;omega,by unfold rest;omega⟩
    have HRR : Hid (∀ W,Calls Try.prog 29 #[.int .i64 (picks.getD k 0),.int .i64 (R : Int)] W fun e w' => e = .returned (.int .i64 (pi : Int)) ∧ W = w'):=fun W => by
     have:=prest (picks.getD k 0) R W (by omega) (by omega) (HPi.out k)
     unfold rest at hpi;rwa [hpi] at this
    have HNx : Hid ((natV (Mc.ready s t))[pi]? = some (.int .i64 ((turn s picks t : Nat) : Int))):=by
     show _ = _
     rw [HRL.out pi hpl_,HTn.out,← HSt.out.1,if_pos hn,hpi,Int.toNat_natCast]
    clear hpi hn HTn HRL;generalize picks.getD k 0 = pk at *;refine wp_seq_k fun Kj hKj => ?_
    have HKj:=ζ hKj
    clear hKj;go_wp2;refine HKj.out _ _ ?_;clear HKj Kj;clear xk;go_wp2_with fail
    refine (HRR.out _).mono ?_
    rintro e3 w3 ⟨rfl,rfl⟩
    clear HRR;have x1:=own_rdA HLs.out rfl hR0 pi _ HNx.out
    have pI : (pi : Int) < (R : Int):=by omega
    have pJ : (0 : Int) ≤ (pi : Int):=by omega
    go_wp2_with fail
    refine HCS.out.mono ?_
    rintro e4 w4 ⟨m4,hsg,hM4,⟨hb,rfl⟩ | ⟨hb,rfl⟩⟩
    ·have HM4:=ζ hM4
     have HB4:=ζ hb
     have HS4:=ζ hsg
     have HPZ : Hid (Mc.play s picks = (3,bad s t (turn s picks t),Mc.step s t (turn s picks t))):=by
      have h1:=HSt.out.2.2
      have h2:=fin_len HF0.out
      have h3:=HSt.out.1
      rw [show 40001 - k = (40000 - k) + 1 by omega,run_bad HF0.out hb] at h1
      exact h1
     clear hM4 hb hsg x1;go_wp2_with fail
     refine gaveUpR q6 q7 (bad s t (turn s picks t)) w4 HM4.out (by rw [HS4.out.b];exact HGb.out) (by rw [HS4.out.e];exact HGe.out) _ rfl rfl _ (fun w' hM' => ?_)
     rw [HPo.out];exact ⟨_,_,by rw [HPZ.out],by rw [HPZ.out],hM'⟩
    ·have HM4:=ζ hM4
     have hk4 : k + 1 ≤ 40001:=by have:=fin_len HF0.out;have:=HSt.out.1;omega
     have HSt4 : Hid (k + 1 = (Mc.step s t (turn s picks t)).evs.length ∧ Mc.Good s (Mc.step s t (turn s picks t)) ∧ Mc.play s picks = Mc.run s picks (40001 - (k + 1)) (Mc.step s t (turn s picks t))):=by
      have h1:=HSt.out.2.2
      have h2:=fin_len HF0.out
      have h3:=HSt.out.1
      rw [show 40001 - k = (40000 - k) + 1 by omega,run_on HF0.out hb] at h1
      refine ⟨by rw [step_evs,h3];simp,good_turn HOk.out HNm.out HSt.out.2.1 HF0.out,?_⟩
      rw [h1];congr 1
      omega
     have HGb4 : Hid (m4.gb = some q6):=by show _ = _;rw [hsg.b];exact HGb.out
     have HGe4 : Hid (m4.ge = some q7):=by show _ = _;rw [hsg.e];exact HGe.out
     clear hM4 hsg hb x1;generalize Mc.step s t (turn s picks t) = t4 at *;go_wp2;refine HKd.out _ _ ?_;go_wp2;go_roundw
     case rel => exact ⟨k + 1,_,m4,by go_num,hk4,HM4,HGb4,HGe4,HSt4⟩
     case measure => simp [intOf];omega
   ·have hn1 : ((k : Int) < (picks.length : Int)) = False:=by simp;omega
    have HRR : Hid (∀ W,Calls Try.prog 29 #[.int .i64 0,.int .i64 (R : Int)] W fun e w' => e = .returned (.int .i64 0) ∧ W = w'):=fun W => by
     have:=prest 0 R W (by omega) (by omega) i64_0
     rwa [Int.zero_emod] at this
    have HNx : Hid ((natV (Mc.ready s t))[0]? = some (.int .i64 ((turn s picks t : Nat) : Int))):=by
     show _ = _
     rw [HRL.out 0 hR0,HTn.out,← HSt.out.1,if_neg hn]
    clear hn HTn HRL;refine wp_seq_k fun Kj hKj => ?_
    have HKj:=ζ hKj
    clear hKj;go_wp2;refine HKj.out _ _ ?_;clear HKj Kj;go_wp2_with fail
    refine (HRR.out _).mono ?_
    rintro e3 w3 ⟨rfl,rfl⟩
    clear HRR;have x1:=own_rdA HLs.out rfl hR0 0 _ HNx.out
    have pI : (0 : Int) < (R : Int):=by omega
    have pJ : (0 : Int) ≤ (0 : Int):=by omega
    go_wp2_with fail
    refine HCS.out.mono ?_
    rintro e4 w4 ⟨m4,hsg,hM4,⟨hb,rfl⟩ | ⟨hb,rfl⟩⟩
    ·have HM4:=ζ hM4
     have HB4:=ζ hb
     have HS4:=ζ hsg
     have HPZ : Hid (Mc.play s picks = (3,bad s t (turn s picks t),Mc.step s t (turn s picks t))):=by
      have h1:=HSt.out.2.2
      have h2:=fin_len HF0.out
      have h3:=HSt.out.1
      rw [show 40001 - k = (40000 - k) + 1 by omega,run_bad HF0.out hb] at h1
      exact h1
     clear hM4 hb hsg x1;go_wp2_with fail
     refine gaveUpR q6 q7 (bad s t (turn s picks t)) w4 HM4.out (by rw [HS4.out.b];exact HGb.out) (by rw [HS4.out.e];exact HGe.out) _ rfl rfl _ (fun w' hM' => ?_)
     rw [HPo.out];exact ⟨_,_,by rw [HPZ.out],by rw [HPZ.out],hM'⟩
    ·have HM4:=ζ hM4
     have hk4 : k + 1 ≤ 40001:=by have:=fin_len HF0.out;have:=HSt.out.1;omega
     have HSt4 : Hid (k + 1 = (Mc.step s t (turn s picks t)).evs.length ∧ Mc.Good s (Mc.step s t (turn s picks t)) ∧ Mc.play s picks = Mc.run s picks (40001 - (k + 1)) (Mc.step s t (turn s picks t))):=by
      have h1:=HSt.out.2.2
      have h2:=fin_len HF0.out
      have h3:=HSt.out.1
      rw [show 40001 - k = (40000 - k) + 1 by omega,run_on HF0.out hb] at h1
      refine ⟨by rw [step_evs,h3];simp,good_turn HOk.out HNm.out HSt.out.2.1 HF0.out,?_⟩
      rw [h1];congr 1
      omega
     have HGb4 : Hid (m4.gb = some q6):=by show _ = _;rw [hsg.b];exact HGb.out
     have HGe4 : Hid (m4.ge = some q7):=by show _ = _;rw [hsg.e];exact HGe.out
     clear hM4 hsg hb x1;generalize Mc.step s t (turn s picks t) = t4 at *;go_wp2;refine HKd.out _ _ ?_;go_wp2;go_roundw
     case rel => exact ⟨k + 1,_,m4,by go_num,hk4,HM4,HGb4,HGe4,HSt4⟩
     case measure => simp [intOf];omega
  ·have kf : (Mc.fin s t != 0) = true:=by simpa using hf
   have HPZ : Hid (Mc.play s picks = (Mc.fin s t,0,t)):=by
    have h1:=HSt.out.2.2
    have h2:=HGd.out.el
    have h3:=HSt.out.1
    rw [show 40001 - k = (40000 - k) + 1 by omega,run_fin hf] at h1
    exact h1
   clear hf;have f0 : W3.frozen? ⟨q6,0,none⟩ = false:=by simp [World.frozen?,(HM3.out.gst q6 HGb.out).1]
   have HM4:=ζ (HM3.out.setG HGb.out (Mc.fin s t))
   have d7 : (W3.setCell ⟨q6,0,none⟩ (.int .i64 (Mc.fin s t))).cell? ⟨q7,0,none⟩ = some (.int .i64 m2.gy):=blk_cell (i:=0) (HM4.out.gse q7 HGe.out).1 rfl
   have f7 : (W3.setCell ⟨q6,0,none⟩ (.int .i64 (Mc.fin s t))).frozen? ⟨q7,0,none⟩ = false:=by simp [World.frozen?,(HM4.out.gse q7 HGe.out).1]
   have HM5:=ζ (HM4.out.setE HGe.out 0)
   go_wp2;refine endsR q6 q7 _ HM5.out HGb.out HGe.out _ rfl rfl _ ?_
   rw [HPo.out];exact ⟨_,_,by rw [HPZ.out],by rw [HPZ.out],HM5.out⟩
end LW
end Go.Proofs.Ytfbnakmmmphedaa
