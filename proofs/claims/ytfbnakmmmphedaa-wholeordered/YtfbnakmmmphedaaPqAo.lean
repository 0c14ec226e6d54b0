/-
  Pq1, Pq2, Pq3, Pw1 in one.
-/
import Derived.Test.YtfbnakmmmphedaaGoodo
set_option linter.unusedVariables false
set_option linter.unusedSimpArgs false
namespace Go.Proofs.Ytfbnakmmmphedaa
open Go
namespace Mc
namespace PQ
def nx (s : Syst) (P X : Int) (R : List Int) : Rn:=⟨P,X,R,decide (((pg s P).length : Int) ≤ X)⟩
theorem on_set {s : Syst} {l : List Rn} {k : Nat} (hk : k < l.length) (P X : Int) (R : List Int) : on s (l.set k ⟨P,X,R,false⟩) k = l.set k (nx s P (X + 1) R):=by
 unfold on nx
 rw [getD_set,if_pos ⟨rfl,hk⟩,List.set_set]
 simp
theorem on_id {s : Syst} {l : List Rn} {k : Nat} {P X : Int} {R : List Int} (h : l.getD k r0 = ⟨P,X,R,false⟩) : on s l k = l.set k (nx s P (X + 1) R):=by
 unfold on nx
 rw [h]
 simp
theorem stepOf {s : Syst} {t : St} {k : Nat} {x v : Int} {sh : Bool} {T : St} (ha : act s t k = ⟨x,v,sh,0,T⟩) : bad s t k = 0 ∧ step s t k = ⟨on s T.rns k,T.held,T.shut,T.locked,T.groups,T.cells,t.evs ++ [ev s t k]⟩:=by
 have hb : bad s t k = 0:=by unfold bad;rw [ha]
 refine ⟨hb,?_⟩
 unfold step
 rw [if_neg (by rw [hb];simp),ha]
theorem step1 {s : Syst} {t : St} {k : Nat} {P X : Int} {R : List Int} {A B C : Int} (hk : k < t.rns.length) (hr : rn t k = ⟨P,X,R,false⟩) (hi : ins s t k = ⟨1,A,B,C⟩) : bad s t k = 0 ∧ step s t k = ⟨t.rns.set k (nx s P (X + 1) (R.set A.toNat B)),t.held,t.shut,t.locked,t.groups,t.cells,t.evs ++ [ev s t k]⟩:=by
 have ha : act s t k = ⟨0,0,false,0,{ t with rns:=t.rns.set k ⟨P,X,R.set A.toNat B,false⟩ }⟩:=by simp [act,own,setR,hi,hr]
 have:=stepOf ha
 dsimp only at this
 rw [on_set hk] at this
 exact this
theorem step2 {s : Syst} {t : St} {k : Nat} {P X : Int} {R : List Int} {A B C : Int} (hk : k < t.rns.length) (hr : rn t k = ⟨P,X,R,false⟩) (hi : ins s t k = ⟨2,A,B,C⟩) : bad s t k = 0 ∧ step s t k = ⟨t.rns.set k (nx s P (X + 1) (R.set A.toNat (IntKind.i64.wrap (R.getD A.toNat 0 + R.getD B.toNat 0)))),t.held,t.shut,t.locked,t.groups,t.cells,t.evs ++ [ev s t k]⟩:=by
 have ha : act s t k = ⟨0,0,false,0,{ t with rns:=t.rns.set k ⟨P,X,R.set A.toNat (IntKind.i64.wrap (R.getD A.toNat 0 + R.getD B.toNat 0)),false⟩ }⟩:=by simp [act,own,setR,hi,hr,reg]
 have:=stepOf ha
 dsimp only at this
 rw [on_set hk] at this
 exact this
theorem step3y {s : Syst} {t : St} {k : Nat} {P X : Int} {R : List Int} {A B C : Int} (hk : k < t.rns.length) (hr : rn t k = ⟨P,X,R,false⟩) (hi : ins s t k = ⟨3,A,B,C⟩) (hl : R.getD A.toNat 0 < R.getD B.toNat 0) : bad s t k = 0 ∧ step s t k = ⟨t.rns.set k (nx s P C R),t.held,t.shut,t.locked,t.groups,t.cells,t.evs ++ [ev s t k]⟩:=by
 have ha : act s t k = ⟨0,0,false,0,{ t with rns:=t.rns.set k ⟨P,C - 1,R,false⟩ }⟩:=by
  have h2 : reg t k A < reg t k B:=by unfold reg;rw [hr];exact hl
  simp only [act,own,setP,hi,hr]
  simp [h2]
 have:=stepOf ha
 dsimp only at this
 rw [on_set hk,Int.sub_add_cancel] at this
 exact this
theorem step3n {s : Syst} {t : St} {k : Nat} {P X : Int} {R : List Int} {A B C : Int} (hk : k < t.rns.length) (hr : rn t k = ⟨P,X,R,false⟩) (hi : ins s t k = ⟨3,A,B,C⟩) (hl : ¬ R.getD A.toNat 0 < R.getD B.toNat 0) : bad s t k = 0 ∧ step s t k = ⟨t.rns.set k (nx s P (X + 1) R),t.held,t.shut,t.locked,t.groups,t.cells,t.evs ++ [ev s t k]⟩:=by
 have ha : act s t k = ⟨0,0,false,0,t⟩:=by
  have h2 : ¬ reg t k A < reg t k B:=by unfold reg;rw [hr];exact hl
  simp only [act,own,setP,hi,hr]
  simp [h2]
 have:=stepOf ha
 rw [on_id hr] at this
 exact this
theorem step4 {s : Syst} {t : St} {k : Nat} {P X : Int} {R : List Int} {A B C : Int} (hk : k < t.rns.length) (hr : rn t k = ⟨P,X,R,false⟩) (hi : ins s t k = ⟨4,A,B,C⟩) : bad s t k = 0 ∧ step s t k = ⟨t.rns.set k (nx s P C R),t.held,t.shut,t.locked,t.groups,t.cells,t.evs ++ [ev s t k]⟩:=by
 have ha : act s t k = ⟨0,0,false,0,{ t with rns:=t.rns.set k ⟨P,C - 1,R,false⟩ }⟩:=by simp [act,own,setP,hi,hr]
 have:=stepOf ha
 dsimp only at this
 rw [on_set hk,Int.sub_add_cancel] at this
 exact this
theorem step16 {s : Syst} {t : St} {k : Nat} {P X : Int} {R : List Int} {A B C : Int} (hk : k < t.rns.length) (hr : rn t k = ⟨P,X,R,false⟩) (hi : ins s t k = ⟨16,A,B,C⟩) : bad s t k = 0 ∧ step s t k = ⟨t.rns.set k ⟨P,X + 1,R,true⟩,t.held,t.shut,t.locked,t.groups,t.cells,t.evs ++ [ev s t k]⟩:=by
 have ha : act s t k = ⟨0,0,false,0,{ t with rns:=t.rns.set k ⟨P,X,R,true⟩ }⟩:=by simp [act,own,hi,hr]
 have:=stepOf ha
 dsimp only at this
 have h2 : on s (t.rns.set k ⟨P,X,R,true⟩) k = t.rns.set k ⟨P,X + 1,R,true⟩:=by
  unfold on;rw [getD_set,if_pos ⟨rfl,hk⟩,List.set_set];simp
 rw [h2] at this
 exact this
theorem step5 {s : Syst} {t : St} {k : Nat} {P X : Int} {R : List Int} {A B C : Int} (hk : k < t.rns.length) (hr : rn t k = ⟨P,X,R,false⟩) (hi : ins s t k = ⟨5,A,B,C⟩) (hs : t.shut.getD A.toNat false = false) : bad s t k = 0 ∧ step s t k = ⟨t.rns.set k (nx s P (X + 1) R),t.held.set A.toNat (t.held.getD A.toNat [] ++ [R.getD B.toNat 0]),t.shut,t.locked,t.groups,t.cells,t.evs ++ [ev s t k]⟩:=by
 have ha : act s t k = ⟨A,R.getD B.toNat 0,false,0,{ t with held:=t.held.set A.toNat (t.held.getD A.toNat [] ++ [R.getD B.toNat 0]) }⟩:=by
  have h2 : reg t k B = R.getD B.toNat 0:=by unfold reg;rw [hr]
  simp only [act,chan,hi,hs,h2]
  simp
 have:=stepOf ha
 dsimp only at this
 rw [on_id hr] at this
 exact this
theorem step6e {s : Syst} {t : St} {k : Nat} {P X : Int} {R : List Int} {A B C : Int} (hk : k < t.rns.length) (hr : rn t k = ⟨P,X,R,false⟩) (hi : ins s t k = ⟨6,A,B,C⟩) (hs : t.held.getD A.toNat [] = []) : bad s t k = 0 ∧ step s t k = ⟨t.rns.set k (nx s P C R),t.held,t.shut,t.locked,t.groups,t.cells,t.evs ++ [ev s t k]⟩:=by
 have ha : ∃ v,act s t k = ⟨A,v,true,0,{ t with rns:=t.rns.set k ⟨P,C - 1,R,false⟩ }⟩:=by
  simp only [act,chan,setP,hi,hs,hr]
  simp
 obtain ⟨v,ha⟩:=ha
 have:=stepOf ha
 dsimp only at this
 rw [on_set hk,Int.sub_add_cancel] at this
 exact this
theorem step6 {s : Syst} {t : St} {k : Nat} {P X : Int} {R : List Int} {A B C : Int} (hk : k < t.rns.length) (hr : rn t k = ⟨P,X,R,false⟩) (hi : ins s t k = ⟨6,A,B,C⟩) {x : Int} {xs : List Int} (hs : t.held.getD A.toNat [] = x :: xs) : bad s t k = 0 ∧ step s t k = ⟨t.rns.set k (nx s P (X + 1) (R.set B.toNat x)),t.held.set A.toNat xs,t.shut,t.locked,t.groups,t.cells,t.evs ++ [ev s t k]⟩:=by
 have ha : act s t k = ⟨A,x,false,0,{ t with held:=t.held.set A.toNat xs,rns:=t.rns.set k ⟨P,X,R.set B.toNat x,false⟩ }⟩:=by
  simp only [act,chan,setR,hi,hs,hr]
  simp
 have:=stepOf ha
 dsimp only at this
 rw [on_set hk] at this
 exact this
theorem step7 {s : Syst} {t : St} {k : Nat} {P X : Int} {R : List Int} {A B C : Int} (hk : k < t.rns.length) (hr : rn t k = ⟨P,X,R,false⟩) (hi : ins s t k = ⟨7,A,B,C⟩) (hs : t.shut.getD A.toNat false = false) : bad s t k = 0 ∧ step s t k = ⟨t.rns.set k (nx s P (X + 1) R),t.held,t.shut.set A.toNat true,t.locked,t.groups,t.cells,t.evs ++ [ev s t k]⟩:=by
 have ha : act s t k = ⟨A,0,false,0,{ t with shut:=t.shut.set A.toNat true }⟩:=by
  simp only [act,chan,hi,hs]
  simp
 have:=stepOf ha
 dsimp only at this
 rw [on_id hr] at this
 exact this
theorem step10 {s : Syst} {t : St} {k : Nat} {P X : Int} {R : List Int} {A B C : Int} (hk : k < t.rns.length) (hr : rn t k = ⟨P,X,R,false⟩) (hi : ins s t k = ⟨10,A,B,C⟩) {v : Int} (hv : IntKind.i64.wrap (t.groups.getD A.toNat 0 + B) = v) (h0 : 0 ≤ v) : bad s t k = 0 ∧ step s t k = ⟨t.rns.set k (nx s P (X + 1) R),t.held,t.shut,t.locked,t.groups.set A.toNat v,t.cells,t.evs ++ [ev s t k]⟩:=by
 have ha : act s t k = ⟨A,v,false,0,{ t with groups:=t.groups.set A.toNat v }⟩:=by
  have h2 : ¬ v < 0:=by omega
  simp only [act,shar,grp,hi,hv]
  simp [h2]
 have:=stepOf ha
 dsimp only at this
 rw [on_id hr] at this
 exact this
theorem step11 {s : Syst} {t : St} {k : Nat} {P X : Int} {R : List Int} {A B C : Int} (hk : k < t.rns.length) (hr : rn t k = ⟨P,X,R,false⟩) (hi : ins s t k = ⟨11,A,B,C⟩) : bad s t k = 0 ∧ step s t k = ⟨t.rns.set k (nx s P (X + 1) R),t.held,t.shut,t.locked,t.groups,t.cells,t.evs ++ [ev s t k]⟩:=by
 have ha : act s t k = ⟨A,0,false,0,t⟩:=by
  simp only [act,shar,hi]
  simp
 have:=stepOf ha
 rw [on_id hr] at this
 exact this
theorem step12 {s : Syst} {t : St} {k : Nat} {P X : Int} {R : List Int} {A B C : Int} (hk : k < t.rns.length) (hr : rn t k = ⟨P,X,R,false⟩) (hi : ins s t k = ⟨12,A,B,C⟩) : bad s t k = 0 ∧ step s t k = ⟨t.rns.set k (nx s P (X + 1) (R.set B.toNat (t.cells.getD (cel s t k).toNat 0))),t.held,t.shut,t.locked,t.groups,t.cells,t.evs ++ [ev s t k]⟩:=by
 have ha : act s t k = ⟨cel s t k,t.cells.getD (cel s t k).toNat 0,false,0,{ t with rns:=t.rns.set k ⟨P,X,R.set B.toNat (t.cells.getD (cel s t k).toNat 0),false⟩ }⟩:=by
  generalize hc : cel s t k = c
  simp only [act,shar,setR,hi,hr,hc]
  simp
 have:=stepOf ha
 dsimp only at this
 rw [on_set hk] at this
 exact this
theorem step13 {s : Syst} {t : St} {k : Nat} {P X : Int} {R : List Int} {A B C : Int} (hk : k < t.rns.length) (hr : rn t k = ⟨P,X,R,false⟩) (hi : ins s t k = ⟨13,A,B,C⟩) : bad s t k = 0 ∧ step s t k = ⟨t.rns.set k (nx s P (X + 1) R),t.held,t.shut,t.locked,t.groups,t.cells.set (cel s t k).toNat (R.getD B.toNat 0),t.evs ++ [ev s t k]⟩:=by
 have ha : act s t k = ⟨cel s t k,R.getD B.toNat 0,false,0,{ t with cells:=t.cells.set (cel s t k).toNat (R.getD B.toNat 0) }⟩:=by
  have h2 : reg t k B = R.getD B.toNat 0:=by unfold reg;rw [hr]
  generalize hc : cel s t k = c
  simp only [act,shar,hi,hc,h2]
  simp
 have:=stepOf ha
 dsimp only at this
 rw [on_id hr] at this
 exact this
theorem step14 {s : Syst} {t : St} {k : Nat} {P X : Int} {R : List Int} {A B C : Int} (hk : k < t.rns.length) (hr : rn t k = ⟨P,X,R,false⟩) (hi : ins s t k = ⟨14,A,B,C⟩) (hl : t.rns.length < 512) : bad s t k = 0 ∧ step s t k = ⟨t.rns.set k (nx s P (X + 1) R) ++ [⟨A,0,R,(pg s A).isEmpty⟩],t.held,t.shut,t.locked,t.groups,t.cells,t.evs ++ [ev s t k]⟩:=by
 have ha : act s t k = ⟨A,t.rns.length,false,0,{ t with rns:=t.rns ++ [⟨A,0,R,(pg s A).isEmpty⟩] }⟩:=by
  have h2 : ¬ 512 ≤ t.rns.length:=by omega
  simp only [act,shar,hi,hr]
  simp [h2]
 have:=stepOf ha
 dsimp only at this
 rw [on_id (P:=P) (X:=X) (R:=R) (by rw [List.getD_eq_getElem?_getD,List.getElem?_append_left hk,← List.getD_eq_getElem?_getD];exact hr),List.set_append_left _ _ hk] at this
 exact this
theorem step15 {s : Syst} {t : St} {k : Nat} {P X : Int} {R : List Int} {A B C : Int} (hk : k < t.rns.length) (hr : rn t k = ⟨P,X,R,false⟩) (hi : ins s t k = ⟨15,A,B,C⟩) : bad s t k = 0 ∧ step s t k = ⟨t.rns.set k (nx s P (X + 1) R),t.held,t.shut,t.locked,t.groups,t.cells,t.evs ++ [ev s t k]⟩:=by
 have ha : ∃ v,act s t k = ⟨A,v,false,0,t⟩:=by
  simp only [act,shar,hi]
  simp
 obtain ⟨v,ha⟩:=ha
 have:=stepOf ha
 rw [on_id hr] at this
 exact this
theorem can_free {s : Syst} {t : St} {k : Nat} (he : (rn t k).ended = false) (h : (ins s t k).op ≠ 5 ∧ (ins s t k).op ≠ 6 ∧ (ins s t k).op ≠ 8 ∧ (ins s t k).op ≠ 11) : can s t k = true:=by
 unfold can
 simp [he,h.1,h.2.1,h.2.2.1,h.2.2.2]
theorem can5 {s : Syst} {t : St} {k : Nat} {A B C : Int} (he : (rn t k).ended = false) (hi : ins s t k = ⟨5,A,B,C⟩) : can s t k = (t.shut.getD A.toNat false || decide (((t.held.getD A.toNat []).length : Int) < s.rooms.getD A.toNat 0)):=by
 unfold can
 rw [he,hi]
 simp
theorem can6 {s : Syst} {t : St} {k : Nat} {A B C : Int} (he : (rn t k).ended = false) (hi : ins s t k = ⟨6,A,B,C⟩) : can s t k = (t.shut.getD A.toNat false || decide (0 < (t.held.getD A.toNat []).length)):=by
 unfold can
 rw [he,hi]
 simp
theorem can11 {s : Syst} {t : St} {k : Nat} {A B C : Int} (he : (rn t k).ended = false) (hi : ins s t k = ⟨11,A,B,C⟩) : can s t k = decide (t.groups.getD A.toNat 0 = 0):=by
 unfold can
 rw [he,hi]
 simp
def sm (f : Rn → Int) : List Rn → Int
 | [] => 0
 | r :: l => f r + sm f l
theorem sm_set (f : Rn → Int) : ∀ (l : List Rn) (k : Nat) (r : Rn),k < l.length → sm f (l.set k r) = sm f l - f (l.getD k r0) + f r
 | [],k,r,h => by simp at h
 | x :: l,0,r,h => by simp [sm];omega
 | x :: l,k + 1,r,h => by
  have:=sm_set f l k r (by simpa using h)
  simp only [List.set_cons_succ,sm,List.getD_cons_succ]
  omega
theorem sm_app (f : Rn → Int) : ∀ (l : List Rn) (r : Rn),sm f (l ++ [r]) = sm f l + f r
 | [],r => by simp [sm]
 | x :: l,r => by
  have:=sm_app f l r
  simp only [List.cons_append,sm]
  omega
theorem sm_zero (f : Rn → Int) : ∀ (l : List Rn),(∀ k,k < l.length → f (l.getD k r0) = 0) → sm f l = 0
 | [],_ => rfl
 | x :: l,h => by
  have h0:=h 0 (by simp)
  have:=sm_zero f l (fun k hk => by have:=h (k + 1) (by simpa using hk);simpa using this)
  simp at h0
  simp only [sm]
  omega
theorem sm_nn (f : Rn → Int) : ∀ (l : List Rn),(∀ k,k < l.length → 0 ≤ f (l.getD k r0)) → 0 ≤ sm f l
 | [],_ => Int.le_refl _
 | x :: l,h => by
  have h0:=h 0 (by simp)
  have:=sm_nn f l (fun k hk => by have:=h (k + 1) (by simpa using hk);simpa using this)
  simp at h0
  simp only [sm]
  omega
theorem sm_le (f : Rn → Int) (hf : ∀ r,f r ≤ 1) : ∀ (l : List Rn),sm f l ≤ l.length
 | [] => Int.le_refl _
 | x :: l => by
  have:=sm_le f hf l
  have:=hf x
  simp only [sm,List.length_cons]
  omega
theorem sm_ge (f : Rn → Int) (l : List Rn) (k : Nat) (hk : k < l.length) (h : ∀ j,j < l.length → j ≠ k → 0 ≤ f (l.getD j r0)) : f (l.getD k r0) ≤ sm f l:=by
 have h1:=sm_set f l k r0 hk
 have h2 : 0 ≤ sm f (l.set k r0) - f r0 + 0:=by
  have h3 : ∀ (m : List Rn) (i : Nat),i < m.length → (∀ j,j < m.length → j ≠ i → 0 ≤ f (m.getD j r0)) → f (m.getD i r0) ≤ sm f m:=by
   intro m
   induction m with
   | nil => intro i hi;simp at hi
   | cons x m ih =>
    intro i hi hm
    cases i with
    | zero =>
     have:=sm_nn f m (fun j hj => by have:=hm (j + 1) (by simpa using hj) (by omega);simpa using this)
     simp only [sm,List.getD_cons_zero]
     omega
    | succ i =>
     have h4:=ih i (by simpa using hi) (fun j hj hne => by have:=hm (j + 1) (by simpa using hj) (by omega);simpa using this)
     have h5:=hm 0 (by simp) (by omega)
     simp only [List.getD_cons_zero] at h5
     simp only [sm,List.getD_cons_succ]
     omega
  have:=h3 l k hk h
  omega
 omega
theorem sm_ge2 (f : Rn → Int) (l : List Rn) (i k : Nat) (hi : i < l.length) (hk : k < l.length) (hik : i ≠ k) (h : ∀ j,j < l.length → j ≠ i → j ≠ k → 0 ≤ f (l.getD j r0)) (h0 : f r0 = 0) : f (l.getD i r0) + f (l.getD k r0) ≤ sm f l:=by
 have h1:=sm_set f l i r0 hi
 have h2:=sm_ge f (l.set i r0) k (by rw [List.length_set];exact hk) (fun j hj hne => by
  rw [List.length_set] at hj;rw [getD_set];by_cases hji : i = j
  ·rw [if_pos ⟨hji,hi⟩,h0];exact Int.le_refl _
  ·rw [if_neg (fun hh => hji hh.1)]
   exact h j hj (fun e => hji e.symm) hne)
 rw [getD_set,if_neg (fun hh => hik hh.1)] at h2
 omega
theorem sm_one (f : Rn → Int) (l : List Rn) (k : Nat) (hk : k < l.length) (h : ∀ j,j < l.length → j ≠ k → f (l.getD j r0) = 0) (h0 : f r0 = 0) : sm f l = f (l.getD k r0):=by
 have h1:=sm_set f l k r0 hk
 have h2:=sm_zero f (l.set k r0) (fun j hj => by
  rw [List.length_set] at hj;rw [getD_set];by_cases hji : k = j
  ·rw [if_pos ⟨hji,hk⟩,h0]
  ·rw [if_neg (fun hh => hji hh.1)]
   exact h j hj (fun e => hji e.symm))
 omega
end PQ
end Mc
end Go.Proofs.Ytfbnakmmmphedaa
namespace Go.Proofs.Ytfbnakmmmphedaa
open List renaming getD_eq_getElem?_getD → gDQ
open Go
namespace Mc
namespace PQ
def cmP (a : Int) : List Ins:=[⟨1,0,0,0⟩,⟨1,1,a,0⟩,⟨1,2,1,0⟩,⟨3,0,1,5⟩,⟨4,0,0,9⟩,⟨10,0,1,0⟩,⟨14,1,0,0⟩,⟨2,0,2,0⟩,⟨4,0,0,3⟩,⟨14,2,0,0⟩,⟨14,3,0,0⟩,⟨6,1,3,14⟩,⟨15,1,3,0⟩,⟨4,0,0,11⟩,⟨16,0,0,0⟩]
def wkP : List Ins:=[⟨6,0,3,6⟩,⟨12,3,4,0⟩,⟨15,0,4,0⟩,⟨5,2,3,0⟩,⟨5,1,4,0⟩,⟨4,0,0,0⟩,⟨10,0,-1,0⟩,⟨16,0,0,0⟩]
def fdP (b n : Int) : List Ins:=[⟨1,0,0,0⟩,⟨1,1,b,0⟩,⟨1,2,1,0⟩,⟨3,0,1,5⟩,⟨4,0,0,8⟩,⟨5,2,0,0⟩,⟨2,0,2,0⟩,⟨4,0,0,3⟩,⟨1,0,0,0⟩,⟨1,1,n,0⟩,⟨3,0,1,12⟩,⟨4,0,0,17⟩,⟨6,2,3,17⟩,⟨13,3,0,0⟩,⟨5,0,3,0⟩,⟨2,0,2,0⟩,⟨4,0,0,10⟩,⟨7,0,0,0⟩,⟨16,0,0,0⟩]
def clP : List Ins:=[⟨11,0,0,0⟩,⟨7,1,0,0⟩,⟨16,0,0,0⟩]
def psys (n a q b : Int) : Syst:=⟨[cmP a,wkP,fdP b n,clP],[q,q,b],1,0,b⟩
def wC (n a b p i : Int) : Int :=
 if p = 0 then 8 * a + 9 + (14 + 4 * b + 15 * n) else if p = 1 then 8 * a + 8 + (14 + 4 * b + 15 * n) else if p = 2 then 8 * a + 7 + (14 + 4 * b + 15 * n)
 else if p = 3 then 8 * (a - i) + 6 + (14 + 4 * b + 15 * n) else if p = 4 then 5 + (14 + 4 * b + 15 * n) else if p = 5 then 8 * (a - i) + 5 + (14 + 4 * b + 15 * n) else if p = 6 then 8 * (a - i) + 4 + (14 + 4 * b + 15 * n)
 else if p = 7 then 8 * (a - i) + (14 + 4 * b + 15 * n) else if p = 8 then 8 * (a - i) + 7 + (14 + 4 * b + 15 * n) else if p = 9 then 4 + (14 + 4 * b + 15 * n) else if p = 10 then 6 else if p = 11 then 2 else if p = 12 then 4 else if p = 13 then 3 else 1
def wW (p : Int) : Int:=if p = 0 then 3 else if p = 1 then 11 else if p = 2 then 10 else if p = 3 then 9 else if p = 4 then 8 else if p = 5 then 4 else if p = 6 then 2 else 1
def wF (n b p c : Int) : Int :=
 if p = 0 then 11 + 4 * b + 15 * n else if p = 1 then 10 + 4 * b + 15 * n else if p = 2 then 9 + 4 * b + 15 * n else if p = 3 then 4 * (b - c) + 8 + 15 * n else if p = 4 then 7 + 15 * n
 else if p = 5 then 4 * (b - c) + 7 + 15 * n else if p = 6 then 4 * (b - c) + 6 + 15 * n else if p = 7 then 4 * (b - c) + 9 + 15 * n else if p = 8 then 15 * n + 6 else if p = 9 then 15 * n + 5
 else if p = 10 then 15 * (n - c) + 4 else if p = 11 then 3 else if p = 12 then 15 * (n - c) + 3 else if p = 13 then 15 * (n - c) + 2 else if p = 14 then 15 * (n - c) + 1 else if p = 15 then 15 * (n - c) - 9 else if p = 16 then 15 * (n - c) + 5 else if p = 17 then 2 else 1
def wK (p : Int) : Int:=if p = 0 then 3 else if p = 1 then 2 else 1
def w (n a b : Int) (r : Rn) : Int :=
 if r.ended = true then 0 else if r.prog = 0 then wC n a b r.pos (r.regs.getD 0 0) else if r.prog = 1 then wW r.pos else if r.prog = 2 then wF n b r.pos (r.regs.getD 0 0) else wK r.pos
def tF (b p c : Int) : Int:=if p ≤ 2 then 0 else if p = 3 then -c else if p = 4 then -b else if p = 5 then -c else if p = 6 then -(c + 1) else if p = 7 then -c else if p = 13 then 1 - b else if p = 14 then 1 - b else -b
def tok (b : Int) (r : Rn) : Int :=
 if r.prog = 1 then (if r.ended = true then 0 else if 1 ≤ r.pos ∧ r.pos ≤ 3 then 1 else 0) else if r.prog = 2 then tF b r.pos (r.regs.getD 0 0) else 0
def gc (r : Rn) : Int:=if r.prog = 1 then (if r.ended = true then 0 else if r.pos ≤ 6 then 1 else 0) else if r.prog = 0 ∧ r.pos = 6 then 1 else 0
def lenC (a p i : Int) : Int:=if p ≤ 2 then 1 else if p = 4 then 1 + a else if p = 9 then 1 + a else if p = 7 then 2 + i else if p ≤ 8 then 1 + i else if p = 10 then a + 2 else a + 3
def CA (a z1 x1 p i x y : Int) : Prop:=0 ≤ p ∧ p ≤ 15 ∧ (p = 1 ∨ p = 2 → i = 0) ∧ (p = 2 → x = a) ∧ (3 ≤ p ∧ p ≤ 8 → 0 ≤ i ∧ i ≤ a ∧ x = a ∧ y = 1) ∧ (5 ≤ p ∧ p ≤ 7 → i < a) ∧ (p = 4 → i = a) ∧ (14 ≤ p → z1 = 1 ∧ x1 = 0)
def WA (z0 x0 p : Int) : Prop:=0 ≤ p ∧ p ≤ 8 ∧ (6 ≤ p → z0 = 1 ∧ x0 = 0)
def FA (n b z0 p c x y : Int) : Prop:=0 ≤ p ∧ p ≤ 19 ∧ (p = 1 ∨ p = 2 → c = 0) ∧ (p = 2 → x = b) ∧ (3 ≤ p ∧ p ≤ 7 → 0 ≤ c ∧ c ≤ b ∧ x = b) ∧ (3 ≤ p ∧ p ≤ 16 → y = 1) ∧ (p = 5 ∨ p = 6 → c < b) ∧ (p = 4 → c = b) ∧ (p = 9 → c = 0) ∧ (10 ≤ p ∧ p ≤ 16 → 0 ≤ c ∧ c ≤ n ∧ x = n) ∧ (12 ≤ p ∧ p ≤ 15 → c < n) ∧ (p = 11 → c = n) ∧ (18 ≤ p → z0 = 1) ∧ (p ≤ 17 → z0 = 0)
def KA (z1 g p : Int) : Prop:=0 ≤ p ∧ p ≤ 3 ∧ (2 ≤ p → z1 = 1) ∧ (p ≤ 1 → z1 = 0) ∧ (1 ≤ p → g = 0)
def LC (a z1 x1 : Int) (r : Rn) : Prop:=∃ p R,r = ⟨0,p,R,decide (p = 15)⟩ ∧ R.length = 8 ∧ CA a z1 x1 p (R.getD 0 0) (R.getD 1 0) (R.getD 2 0)
def LW (z0 x0 : Int) (r : Rn) : Prop:=∃ p R,r = ⟨1,p,R,decide (p = 8)⟩ ∧ R.length = 8 ∧ WA z0 x0 p
def LF (n b z0 : Int) (r : Rn) : Prop:=∃ p R,r = ⟨2,p,R,decide (p = 19)⟩ ∧ R.length = 8 ∧ FA n b z0 p (R.getD 0 0) (R.getD 1 0) (R.getD 2 0)
def LK (z1 g : Int) (r : Rn) : Prop:=∃ p R,r = ⟨3,p,R,decide (p = 3)⟩ ∧ R.length = 8 ∧ KA z1 g p
structure Loc (n a b z0 z1 x0 x1 g : Int) (j : Nat) (r : Rn) : Prop where
 c : j = 0 → LC a z1 x1 r
 w : 1 ≤ j → (j : Int) ≤ a → LW z0 x0 r
 f : (j : Int) = a + 1 → LF n b z0 r
 k : a + 2 ≤ (j : Int) → LK z1 g r
theorem Loc.mono {n a b z0 z1 x0 x1 g z0' z1' x0' x1' g' : Int} {j : Nat} {r : Rn} (h : Loc n a b z0 z1 x0 x1 g j r) (h1 : j = 0 → z1 = 1 → x1 = 0 → z1' = 1 ∧ x1' = 0) (h2 : 1 ≤ j → (j : Int) ≤ a → z0 = 1 → x0 = 0 → z0' = 1 ∧ x0' = 0) (h3 : (j : Int) = a + 1 → z0' = z0) (h4 : a + 2 ≤ (j : Int) → z1' = z1 ∧ (g = 0 → g' = 0)) : Loc n a b z0' z1' x0' x1' g' j r:=by
 refine ⟨fun hj => ?_,fun hj hj2 => ?_,fun hj => ?_,fun hj => ?_⟩
 ·obtain ⟨p,R,e,l,A⟩:=h.c hj
  have:=h1 hj
  exact ⟨p,R,e,l,by unfold CA at *;omega⟩
 ·obtain ⟨p,R,e,l,A⟩:=h.w hj hj2
  have:=h2 hj hj2
  exact ⟨p,R,e,l,by unfold WA at *;omega⟩
 ·obtain ⟨p,R,e,l,A⟩:=h.f hj
  rw [h3 hj];exact ⟨p,R,e,l,A⟩
 ·obtain ⟨p,R,e,l,A⟩:=h.k hj
  have:=h4 hj
  exact ⟨p,R,e,l,by unfold KA at *;omega⟩
theorem Loc.mkC {n a b z0 z1 x0 x1 g : Int} {r : Rn} (ha : 1 ≤ a) (h : LC a z1 x1 r) : Loc n a b z0 z1 x0 x1 g 0 r:=⟨fun _ => h,fun h => by omega,fun h => by omega,fun h => by omega⟩
theorem Loc.mkW {n a b z0 z1 x0 x1 g : Int} {j : Nat} {r : Rn} (h1 : 1 ≤ j) (h2 : (j : Int) ≤ a) (h : LW z0 x0 r) : Loc n a b z0 z1 x0 x1 g j r:=⟨fun _ => by omega,fun _ _ => h,fun h => by omega,fun h => by omega⟩
theorem Loc.mkF {n a b z0 z1 x0 x1 g : Int} {j : Nat} {r : Rn} (ha : 1 ≤ a) (h2 : (j : Int) = a + 1) (h : LF n b z0 r) : Loc n a b z0 z1 x0 x1 g j r:=⟨fun _ => by omega,fun _ _ => by omega,fun _ => h,fun h => by omega⟩
theorem Loc.mkK {n a b z0 z1 x0 x1 g : Int} {j : Nat} {r : Rn} (ha : 1 ≤ a) (h2 : a + 2 ≤ (j : Int)) (h : LK z1 g r) : Loc n a b z0 z1 x0 x1 g j r:=⟨fun _ => by omega,fun _ _ => by omega,fun _ => by omega,fun _ => h⟩
structure Hy (n a q b : Int) : Prop where
 n0 : 0 ≤ n ∧ n ≤ 1024
 a0 : 1 ≤ a ∧ a ≤ 256
 q0 : 1 ≤ q
 b0 : 1 ≤ b ∧ b ≤ 64
structure IV (n a b : Int) (rns : List Rn) (h0 h1 h2 : List Int) (z0 z1 g : Int) (cells : List Int) (E : Nat) : Prop where
 len : (rns.length : Int) = lenC a (rns.getD 0 r0).pos ((rns.getD 0 r0).regs.getD 0 0)
 loc : ∀ j,j < rns.length → Loc n a b z0 z1 h0.length h1.length g j (rns.getD j r0)
 s0n : (rns.length : Int) ≤ a + 1 → z0 = 0
 s1n : (rns.length : Int) ≤ a + 2 → z1 = 0
 z0r : z0 = 0 ∨ z0 = 1
 z1r : z1 = 0 ∨ z1 = 1
 tk : sm (tok b) rns + h0.length + h2.length = 0
 gp : sm gc rns = g
 ms : E + sm (w n a b) rns + 9 * h0.length + 3 * h1.length = 23 + 8 * a + 4 * b + 15 * n
 cl : (cells.length : Int) = b
theorem gc_nn (r : Rn) : 0 ≤ gc r:=by unfold gc;(repeat' split) <;> omega
theorem gc_le (r : Rn) : gc r ≤ 1:=by unfold gc;(repeat' split) <;> omega
theorem IV.lenb {n a b : Int} {rns : List Rn} {h0 h1 h2 : List Int} {z0 z1 g : Int} {cells : List Int} {E : Nat} (h : IV n a b rns h0 h1 h2 z0 z1 g cells E) (ha : 1 ≤ a) : 0 < rns.length ∧ (rns.length : Int) ≤ a + 3:=by
 have hl:=h.len
 rcases Nat.eq_zero_or_pos rns.length with h0 | h0
 ·obtain rfl:=List.eq_nil_of_length_eq_zero h0
  simp [lenC,r0] at hl
 ·obtain ⟨p,R,e,l,A⟩:=(h.loc 0 h0).c rfl
  refine ⟨h0,?_⟩
  rw [hl,e];unfold CA at A;unfold lenC;dsimp only
  (repeat' split) <;> omega
theorem IV.g0 {n a b : Int} {rns : List Rn} {h0 h1 h2 : List Int} {z0 z1 g : Int} {cells : List Int} {E : Nat} (h : IV n a b rns h0 h1 h2 z0 z1 g cells E) : 0 ≤ g ∧ g ≤ rns.length:=by
 have h1:=sm_nn gc rns (fun k _ => gc_nn _)
 have h2:=sm_le gc gc_le rns
 have:=h.gp
 omega
theorem IV.g1 {n a b : Int} {rns : List Rn} {h0 h1 h2 : List Int} {z0 z1 g : Int} {cells : List Int} {E : Nat} (h : IV n a b rns h0 h1 h2 z0 z1 g cells E) {k : Nat} (hk : k < rns.length) (hg : gc (rns.getD k r0) = 1) : 1 ≤ g:=by
 have h1:=sm_ge gc rns k hk (fun k _ _ => gc_nn _)
 have:=h.gp
 omega
theorem IV.open1 {n a b : Int} {rns : List Rn} {h0 h1 h2 : List Int} {z0 z1 g : Int} {cells : List Int} {E : Nat} (h : IV n a b rns h0 h1 h2 z0 z1 g cells E) (ha : 1 ≤ a) (hg : 1 ≤ g) : z1 = 0:=by
 rcases h.z1r with hz | hz
 ·exact hz
 ·have h1:=h.s1n
  have hl : a + 2 < (rns.length : Int):=by omega
  obtain ⟨p,R,e,l,A⟩:=(h.loc (a + 2).toNat (by omega)).k (by omega)
  unfold KA at A;omega
theorem IV.move {n a b : Int} {rns : List Rn} {h0 h1 h2 : List Int} {z0 z1 g : Int} {cells : List Int} {E : Nat} (h : IV n a b rns h0 h1 h2 z0 z1 g cells E) {k : Nat} (hk : k < rns.length) {r r' : Rn} (hr : rns.getD k r0 = r) {h0' h1' h2' : List Int} {z0' z1' g' : Int} {cells' : List Int}
  (hl : Loc n a b z0' z1' h0'.length h1'.length g' k r')
  (ho : ∀ j,j < rns.length → j ≠ k → Loc n a b z0 z1 h0.length h1.length g j (rns.getD j r0) → Loc n a b z0' z1' h0'.length h1'.length g' j (rns.getD j r0))
  (hz0 : z0' = 0 ∨ z0' = 1) (hz1 : z1' = 0 ∨ z1' = 1) (hs0 : (rns.length : Int) ≤ a + 1 → z0' = 0) (hs1 : (rns.length : Int) ≤ a + 2 → z1' = 0)
  (ht : tok b r' + h0'.length + h2'.length = tok b r + h0.length + h2.length)
  (hg : gc r' - g' = gc r - g)
  (hm : 1 + w n a b r' + 9 * h0'.length + 3 * h1'.length = w n a b r + 9 * h0.length + 3 * h1.length)
  (hc : (cells'.length : Int) = b)
  (hn : k = 0 → lenC a r'.pos (r'.regs.getD 0 0) = lenC a r.pos (r.regs.getD 0 0)) : IV n a b (rns.set k r') h0' h1' h2' z0' z1' g' cells' (E + 1):=by
 have e1:=sm_set (tok b) rns k r' hk
 have e2:=sm_set gc rns k r' hk
 have e3:=sm_set (w n a b) rns k r' hk
 rw [hr] at e1 e2 e3
 have t1:=h.tk
 have t2:=h.gp
 have t3:=h.ms
 refine ⟨?_,fun j hj => ?_,by rw [List.length_set];exact hs0,by rw [List.length_set];exact hs1,hz0,hz1,by omega,by omega,by omega,hc⟩
 ·rw [List.length_set,getD_set]
  by_cases h0 : k = 0
  ·subst h0
   rw [if_pos ⟨rfl,hk⟩,hn rfl,h.len,hr]
  ·rw [if_neg (fun hh => h0 hh.1),h.len]
 ·rw [List.length_set] at hj
  rw [getD_set];by_cases h0 : k = j
  ·subst h0
   rw [if_pos ⟨rfl,hk⟩];exact hl
  ·rw [if_neg (fun hh => h0 hh.1)]
   exact ho j hj (fun e => h0 e.symm) (h.loc j hj)
theorem getD_appL {l : List Rn} {x : Rn} {j : Nat} (h : j < l.length) : (l ++ [x]).getD j r0 = l.getD j r0:=by
 rw [gDQ,List.getElem?_append_left h,← gDQ]
theorem getD_appR (l : List Rn) (x : Rn) : (l ++ [x]).getD l.length r0 = x:=by
 rw [gDQ,List.getElem?_append_right (Nat.le_refl _),Nat.sub_self]
 rfl
theorem IV.start {n a b : Int} {rns : List Rn} {h0 h1 h2 : List Int} {z0 z1 g : Int} {cells : List Int} {E : Nat} (h : IV n a b rns h0 h1 h2 z0 z1 g cells E) (hk : 0 < rns.length) {r r' x : Rn} (hr : rns.getD 0 r0 = r)
  (hl : Loc n a b z0 z1 h0.length h1.length g 0 r') (hx : Loc n a b z0 z1 h0.length h1.length g rns.length x)
  (ht : tok b r' + tok b x = tok b r) (hg : gc r' + gc x = gc r) (hm : 1 + w n a b r' + w n a b x = w n a b r)
  (hn : lenC a r'.pos (r'.regs.getD 0 0) = lenC a r.pos (r.regs.getD 0 0) + 1) : IV n a b (rns.set 0 r' ++ [x]) h0 h1 h2 z0 z1 g cells (E + 1):=by
 have e1:=sm_set (tok b) rns 0 r' hk
 have e2:=sm_set gc rns 0 r' hk
 have e3:=sm_set (w n a b) rns 0 r' hk
 have d1:=sm_app (tok b) (rns.set 0 r') x
 have d2:=sm_app gc (rns.set 0 r') x
 have d3:=sm_app (w n a b) (rns.set 0 r') x
 rw [hr] at e1 e2 e3
 have t1:=h.tk
 have t2:=h.gp
 have t3:=h.ms
 have t4:=h.s0n
 have t5:=h.s1n
 have hlen:=h.len
 rw [hr] at hlen
 have hL : (rns.set 0 r' ++ [x]).length = rns.length + 1:=by simp
 refine ⟨?_,fun j hj => ?_,by rw [hL];omega,by rw [hL];omega,h.z0r,h.z1r,by omega,by omega,by omega,h.cl⟩
 ·rw [hL,getD_appL (by rw [List.length_set];exact hk),getD_set,if_pos ⟨rfl,hk⟩,hn,← hlen]
  omega
 ·rw [hL] at hj
  by_cases h1 : j < rns.length
  ·rw [getD_appL (by rw [List.length_set];exact h1),getD_set]
   by_cases h0 : 0 = j
   ·subst h0
    rw [if_pos ⟨rfl,hk⟩];exact hl
   ·rw [if_neg (fun hh => h0 hh.1)]
    exact h.loc j h1
  ·obtain rfl : j = rns.length:=by omega
   have:=getD_appR (rns.set 0 r') x
   rw [List.length_set] at this;rw [this];exact hx
theorem wrap_id {x : Int} (h : -9223372036854775808 ≤ x ∧ x ≤ 9223372036854775807) : IntKind.i64.wrap x = x:=by
 rw [IntKind.wrap_i64]
 omega
def pst (rns : List Rn) (h0 h1 h2 : List Int) (z0 z1 g : Int) (cells : List Int) (evs : List Ev) : St:=⟨rns,[h0,h1,h2],[decide (z0 = 1),decide (z1 = 1),false],[],[g],cells,evs⟩
def hb (x : Int) (r : Rn) : Int:=if r.ended = false ∧ ((r.prog = 1 ∧ 1 ≤ r.pos ∧ r.pos ≤ 3) ∨ (r.prog = 2 ∧ (r.pos = 13 ∨ r.pos = 14))) ∧ r.regs.getD 3 0 = x then 1 else 0
def lay (b : Int) (r : Rn) : Int:=if r.prog = 2 then (if r.pos ≤ 2 then 0 else if r.pos = 3 then r.regs.getD 0 0 else if r.pos = 4 then b else if r.pos = 5 then r.regs.getD 0 0 else if r.pos = 6 then r.regs.getD 0 0 + 1 else if r.pos = 7 then r.regs.getD 0 0 else b) else 0
def fed (n : Int) (r : Rn) : Int:=if r.prog = 2 then (if r.pos ≤ 9 then 0 else if r.pos = 14 then r.regs.getD 0 0 + 1 else if r.pos = 15 then r.regs.getD 0 0 + 1 else if r.pos ≤ 16 ∧ r.pos ≠ 11 then r.regs.getD 0 0 else n) else 0
def lf (cells : List Int) (v : Int) (r : Rn) : Int :=
 if r.ended = true then 0 else if (r.prog = 1 ∧ r.pos = 1) ∨ (r.prog = 2 ∧ r.pos = 14) then (if cells.getD (r.regs.getD 3 0).toNat 0 = v then 1 else 0)
 else if r.prog = 1 ∧ 2 ≤ r.pos ∧ r.pos ≤ 4 then (if r.regs.getD 4 0 = v then 1 else 0) else if r.prog = 0 ∧ r.pos = 12 then (if r.regs.getD 3 0 = v then 1 else 0) else 0
def ph (v : Int) (r : Rn) : Int :=
 if r.ended = true then 0 else if r.prog = 1 ∧ (r.pos = 3 ∨ r.pos = 4) then (if r.regs.getD 4 0 = v then 1 else 0) else if r.prog = 0 ∧ r.pos = 12 then (if r.regs.getD 3 0 = v then 1 else 0) else 0
structure Sm (n b : Int) (r r' : Rn) : Prop where
 eb : ∀ x,hb x r' = hb x r
 el : lay b r' = lay b r
 ef : fed n r' = fed n r
 ec : ∀ cells v,lf cells v r' = lf cells v r
 ep : ∀ v,ph v r' = ph v r
structure Qe (e : Ev) : Prop where
 q5 : e.op ≠ 5
 q12 : e.op ≠ 12
 q13 : e.op ≠ 13
 q15 : e.op ≠ 15
 q6 : e.op = 6 → e.shut = true
def Nw (n b : Int) (rns : List Rn) (h0 h1 h2 cells : List Int) (k : Nat) (rns' : List Rn) (h0' h1' h2' cells' : List Int) (e : Ev) : Prop :=
 (∃ r',rns' = rns.set k r' ∧ h0' = h0 ∧ h1' = h1 ∧ h2' = h2 ∧ cells' = cells ∧ Sm n b (rns.getD k r0) r' ∧ Qe e)
 ∨ (∃ r' x,k = 0 ∧ rns' = rns.set 0 r' ++ [x] ∧ h0' = h0 ∧ h1' = h1 ∧ h2' = h2 ∧ cells' = cells ∧ Sm n b (rns.getD 0 r0) r' ∧ Sm n b r0 x ∧ Qe e)
 ∨ (∃ R x,rns.getD k r0 = ⟨1,0,R,false⟩ ∧ R.length = 8 ∧ 1 ≤ k ∧ rns' = rns.set k ⟨1,1,R.set 3 x,false⟩ ∧ h0 = x :: h0' ∧ h1' = h1 ∧ h2' = h2 ∧ cells' = cells ∧ e = ⟨k,6,0,x,false⟩)
 ∨ (∃ R,rns.getD k r0 = ⟨1,1,R,false⟩ ∧ R.length = 8 ∧ 1 ≤ k ∧ rns' = rns.set k ⟨1,2,R.set 4 (cells.getD (R.getD 3 0 % (cells.length : Int)).toNat 0),false⟩ ∧ h0' = h0 ∧ h1' = h1 ∧ h2' = h2 ∧ cells' = cells ∧ e = ⟨k,12,R.getD 3 0 % (cells.length : Int),cells.getD (R.getD 3 0 % (cells.length : Int)).toNat 0,false⟩)
 ∨ (∃ R,rns.getD k r0 = ⟨1,2,R,false⟩ ∧ R.length = 8 ∧ 1 ≤ k ∧ rns' = rns.set k ⟨1,3,R,false⟩ ∧ h0' = h0 ∧ h1' = h1 ∧ h2' = h2 ∧ cells' = cells ∧ e = ⟨k,15,0,R.getD 4 0,false⟩)
 ∨ (∃ R,rns.getD k r0 = ⟨1,3,R,false⟩ ∧ R.length = 8 ∧ 1 ≤ k ∧ rns' = rns.set k ⟨1,4,R,false⟩ ∧ h0' = h0 ∧ h1' = h1 ∧ h2' = h2 ++ [R.getD 3 0] ∧ cells' = cells ∧ e = ⟨k,5,2,R.getD 3 0,false⟩)
 ∨ (∃ R,rns.getD k r0 = ⟨1,4,R,false⟩ ∧ R.length = 8 ∧ 1 ≤ k ∧ rns' = rns.set k ⟨1,5,R,false⟩ ∧ h0' = h0 ∧ h1' = h1 ++ [R.getD 4 0] ∧ h2' = h2 ∧ cells' = cells ∧ e = ⟨k,5,1,R.getD 4 0,false⟩)
 ∨ (∃ R,rns.getD k r0 = ⟨2,5,R,false⟩ ∧ R.length = 8 ∧ 1 ≤ k ∧ (0 ≤ R.getD 0 0 ∧ R.getD 0 0 < b ∧ sm (lay b) rns = R.getD 0 0) ∧ rns' = rns.set k ⟨2,6,R,false⟩ ∧ h0' = h0 ∧ h1' = h1 ∧ h2' = h2 ++ [R.getD 0 0] ∧ cells' = cells ∧ e = ⟨k,5,2,R.getD 0 0,false⟩)
 ∨ (∃ R x,rns.getD k r0 = ⟨2,12,R,false⟩ ∧ R.length = 8 ∧ 1 ≤ k ∧ rns' = rns.set k ⟨2,13,R.set 3 x,false⟩ ∧ h0' = h0 ∧ h1' = h1 ∧ h2 = x :: h2' ∧ cells' = cells ∧ e = ⟨k,6,2,x,false⟩)
 ∨ (∃ R,rns.getD k r0 = ⟨2,13,R,false⟩ ∧ R.length = 8 ∧ 1 ≤ k ∧ (0 ≤ R.getD 0 0 ∧ R.getD 0 0 < n ∧ sm (fed n) rns = R.getD 0 0) ∧ rns' = rns.set k ⟨2,14,R,false⟩ ∧ h0' = h0 ∧ h1' = h1 ∧ h2' = h2 ∧ cells' = cells.set (R.getD 3 0 % (cells.length : Int)).toNat (R.getD 0 0) ∧ e = ⟨k,13,R.getD 3 0 % (cells.length : Int),R.getD 0 0,false⟩)
 ∨ (∃ R,rns.getD k r0 = ⟨2,14,R,false⟩ ∧ R.length = 8 ∧ 1 ≤ k ∧ rns' = rns.set k ⟨2,15,R,false⟩ ∧ h0' = h0 ++ [R.getD 3 0] ∧ h1' = h1 ∧ h2' = h2 ∧ cells' = cells ∧ e = ⟨k,5,0,R.getD 3 0,false⟩)
 ∨ (∃ R x,rns.getD k r0 = ⟨0,11,R,false⟩ ∧ R.length = 8 ∧ k = 0 ∧ rns' = rns.set k ⟨0,12,R.set 3 x,false⟩ ∧ h0' = h0 ∧ h1 = x :: h1' ∧ h2' = h2 ∧ cells' = cells ∧ e = ⟨k,6,1,x,false⟩)
 ∨ (∃ R,rns.getD k r0 = ⟨0,12,R,false⟩ ∧ R.length = 8 ∧ k = 0 ∧ rns' = rns.set k ⟨0,13,R,false⟩ ∧ h0' = h0 ∧ h1' = h1 ∧ h2' = h2 ∧ cells' = cells ∧ e = ⟨k,15,1,R.getD 3 0,false⟩)
theorem ev6e {s : Syst} {t : St} {k : Nat} {A B C : Int} (hi : ins s t k = ⟨6,A,B,C⟩) (hs : t.held.getD A.toNat [] = []) : (ev s t k).shut = true:=by simp only [ev,act,chan,hi,hs];simp
theorem ev6 {s : Syst} {t : St} {k : Nat} {A B C x : Int} {xs : List Int} (hi : ins s t k = ⟨6,A,B,C⟩) (hs : t.held.getD A.toNat [] = x :: xs) : ev s t k = ⟨k,6,A,x,false⟩:=by simp only [ev,act,chan,hi,hs];simp
theorem ev5 {s : Syst} {t : St} {k : Nat} {P X : Int} {R : List Int} {A B C : Int} (hr : rn t k = ⟨P,X,R,false⟩) (hi : ins s t k = ⟨5,A,B,C⟩) (hs : t.shut.getD A.toNat false = false) : ev s t k = ⟨k,5,A,R.getD B.toNat 0,false⟩:=by
 have h2 : reg t k B = R.getD B.toNat 0:=by unfold reg;rw [hr]
 simp only [ev,act,chan,hi,hs,h2];simp
theorem ev12 {s : Syst} {t : St} {k : Nat} {A B C c : Int} (hi : ins s t k = ⟨12,A,B,C⟩) (hc : cel s t k = c) : ev s t k = ⟨k,12,c,t.cells.getD c.toNat 0,false⟩:=by
 simp only [ev,act,shar,hi,hc];simp
theorem ev13 {s : Syst} {t : St} {k : Nat} {P X : Int} {R : List Int} {A B C c : Int} (hr : rn t k = ⟨P,X,R,false⟩) (hi : ins s t k = ⟨13,A,B,C⟩) (hc : cel s t k = c) : ev s t k = ⟨k,13,c,R.getD B.toNat 0,false⟩:=by
 have h2 : reg t k B = R.getD B.toNat 0:=by unfold reg;rw [hr]
 simp only [ev,act,shar,hi,hc,h2];simp
theorem ev15 {s : Syst} {t : St} {k : Nat} {P X : Int} {R : List Int} {A B C : Int} (hr : rn t k = ⟨P,X,R,false⟩) (hi : ins s t k = ⟨15,A,B,C⟩) : ev s t k = ⟨k,15,A,R.getD B.toNat 0,false⟩:=by
 have h2 : reg t k B = R.getD B.toNat 0:=by unfold reg;rw [hr]
 simp only [ev,act,shar,hi,h2];simp
theorem evq {s : Syst} {t : St} {k : Nat} {o A B C : Int} (hi : ins s t k = ⟨o,A,B,C⟩) (h : o ≠ 5 ∧ o ≠ 12 ∧ o ≠ 13 ∧ o ≠ 15 ∧ o ≠ 6) : Qe (ev s t k):=by
 have e : (ev s t k).op = o:=by show (ins s t k).op = o;rw [hi]
 exact ⟨by rw [e];exact h.1,by rw [e];exact h.2.1,by rw [e];exact h.2.2.1,by rw [e];exact h.2.2.2.1,fun h6 => absurd (e.symm.trans h6) h.2.2.2.2⟩
theorem evqs {s : Syst} {t : St} {k : Nat} {A B C : Int} (hi : ins s t k = ⟨6,A,B,C⟩) (hs : t.held.getD A.toNat [] = []) : Qe (ev s t k):=by
 have e : (ev s t k).op = 6:=by show (ins s t k).op = 6;rw [hi]
 exact ⟨by rw [e];decide,by rw [e];decide,by rw [e];decide,by rw [e];decide,fun _ => ev6e hi hs⟩
theorem IV.one {n a b : Int} {rns : List Rn} {h0 h1 h2 : List Int} {z0 z1 g : Int} {cells : List Int} {E : Nat} (h : IV n a b rns h0 h1 h2 z0 z1 g cells E) (f : Rn → Int) (hf : ∀ r,r.prog ≠ 2 → f r = 0) {k : Nat} (hk : k < rns.length) (hj : (k : Int) = a + 1) : sm f rns = f (rns.getD k r0):=by
 refine sm_one f rns k hk (fun j hjl hne => hf _ ?_) (hf _ (by simp [r0]))
 by_cases e0 : j = 0
 ·obtain ⟨p,R,e,_⟩:=(h.loc j hjl).c e0
  rw [e];simp
 by_cases e1 : (j : Int) ≤ a
 ·obtain ⟨p,R,e,_⟩:=(h.loc j hjl).w (by omega) e1
  rw [e];simp
 ·obtain ⟨p,R,e,_⟩:=(h.loc j hjl).k (by omega)
  rw [e];simp
def Nx2 (n a q b : Int) (rns : List Rn) (h0 h1 h2 : List Int) (z0 z1 g : Int) (cells : List Int) (evs : List Ev) (k : Nat) : Prop:=bad (psys n a q b) (pst rns h0 h1 h2 z0 z1 g cells evs) k = 0 ∧ ∃ rns' h0' h1' h2' z0' z1' g' cells',step (psys n a q b) (pst rns h0 h1 h2 z0 z1 g cells evs) k = pst rns' h0' h1' h2' z0' z1' g' cells' (evs ++ [ev (psys n a q b) (pst rns h0 h1 h2 z0 z1 g cells evs) k]) ∧ IV n a b rns' h0' h1' h2' z0' z1' g' cells' (evs.length + 1) ∧ Nw n b rns h0 h1 h2 cells k rns' h0' h1' h2' cells' (ev (psys n a q b) (pst rns h0 h1 h2 z0 z1 g cells evs) k)
def Nxt (n a q b : Int) (t : St) (k : Nat) : Prop:=bad (psys n a q b) t k = 0 ∧ ∃ rns h0 h1 h2 z0 z1 g cells,step (psys n a q b) t k = pst rns h0 h1 h2 z0 z1 g cells (t.evs ++ [ev (psys n a q b) t k]) ∧ IV n a b rns h0 h1 h2 z0 z1 g cells (t.evs.length + 1)
structure Cx (n a q b : Int) (rns : List Rn) (h0 h1 h2 : List Int) (z0 z1 g : Int) (cells : List Int) (evs : List Ev) (k : Nat) : Prop where
 hy : Hy n a q b
 h : IV n a b rns h0 h1 h2 z0 z1 g cells evs.length
 hk : k < rns.length
 hc : can (psys n a q b) (pst rns h0 h1 h2 z0 z1 g cells evs) k = true
section
variable {n a q b : Int} {rns : List Rn} {h0 h1 h2 : List Int} {z0 z1 g : Int} {cells : List Int} {evs : List Ev} {k : Nat} {R : List Int}
theorem Loc.mkC0 {x0 x1 : Int} {r : Rn} (ha : 1 ≤ a) (hj : k = 0) (h : LC a z1 x1 r) : Loc n a b z0 z1 x0 x1 g k r:=by
 subst hj
 exact Loc.mkC ha h
theorem Cx.ins (X : Cx n a q b rns h0 h1 h2 z0 z1 g cells evs k) {P x : Int} {e : Bool} (hr : rns.getD k r0 = ⟨P,x,R,e⟩) : ins (psys n a q b) (pst rns h0 h1 h2 z0 z1 g cells evs) k = (pg (psys n a q b) P).getD x.toNat i0:=by unfold Mc.ins rn pst;dsimp only;rw [hr]
theorem Cx.all (X : Cx n a q b rns h0 h1 h2 z0 z1 g cells evs k) : (0 ≤ n ∧ n ≤ 1024) ∧ (1 ≤ a ∧ a ≤ 256) ∧ (1 ≤ b ∧ b ≤ 64) ∧ (0 < rns.length ∧ (rns.length : Int) ≤ a + 3) ∧ (0 ≤ g ∧ g ≤ rns.length) ∧ (z0 = 0 ∨ z0 = 1) ∧ (z1 = 0 ∨ z1 = 1) ∧ ((rns.length : Int) ≤ a + 1 → z0 = 0) ∧ ((rns.length : Int) ≤ a + 2 → z1 = 0):=⟨X.hy.n0,X.hy.a0,X.hy.b0,X.h.lenb X.hy.a0.1,X.h.g0,X.h.z0r,X.h.z1r,X.h.s0n,X.h.s1n⟩
attribute [local simp] w wC wW wF wK tok tF gc lenC getD_set hb lay fed lf ph
attribute [-simp] gDQ
theorem goC0 (X : Cx n a q b rns h0 h1 h2 z0 z1 g cells evs k) (hj : k = 0) (hr : rns.getD k r0 = ⟨0,0,R,false⟩) (hR : R.length = 8) (hA : CA a z1 h1.length 0 (R.getD 0 0) (R.getD 1 0) (R.getD 2 0)) : Nx2 n a q b rns h0 h1 h2 z0 z1 g cells evs k:=by
 obtain ⟨y1,y2,y3,hlb,hgb,hz0r,hz1r,hs0,hs1⟩:=X.all
 have hi : _ = Ins.mk 1 0 0 0:=X.ins hr
 obtain ⟨hy,h,hk,hc⟩:=X
 have hst:=step1 (t:=pst rns h0 h1 h2 z0 z1 g cells evs) hk hr hi
 refine ⟨hst.1,rns.set k ⟨0,1,R.set 0 0,false⟩,h0,h1,h2,z0,z1,g,cells,hst.2.trans rfl,?_,?_⟩
 ·refine h.move hk hr (Loc.mkC0 y2.1 hj ⟨1,R.set 0 0,rfl,by simp [hR],by have hB:=hA;simp [CA,hR] at hB ⊢ <;> omega⟩) (fun j hj hne hL => hL) (by omega) (by omega) (by omega) (by omega) ?_ ?_ ?_ h.cl ?_ <;> first | omega | (intros;have hB:=hA;simp [hR,CA] at hB ⊢ <;> omega)
 ·exact .inl ⟨_,rfl,rfl,rfl,rfl,rfl,by rw [hr];constructor <;> intros <;> simp,evq hi (by decide)⟩
theorem goC1 (X : Cx n a q b rns h0 h1 h2 z0 z1 g cells evs k) (hj : k = 0) (hr : rns.getD k r0 = ⟨0,1,R,false⟩) (hR : R.length = 8) (hA : CA a z1 h1.length 1 (R.getD 0 0) (R.getD 1 0) (R.getD 2 0)) : Nx2 n a q b rns h0 h1 h2 z0 z1 g cells evs k:=by
 obtain ⟨y1,y2,y3,hlb,hgb,hz0r,hz1r,hs0,hs1⟩:=X.all
 have hi : _ = Ins.mk 1 1 a 0:=X.ins hr
 obtain ⟨hy,h,hk,hc⟩:=X
 have hst:=step1 (t:=pst rns h0 h1 h2 z0 z1 g cells evs) hk hr hi
 refine ⟨hst.1,rns.set k ⟨0,2,R.set 1 a,false⟩,h0,h1,h2,z0,z1,g,cells,hst.2.trans rfl,?_,?_⟩
 ·refine h.move hk hr (Loc.mkC0 y2.1 hj ⟨2,R.set 1 a,rfl,by simp [hR],by have hB:=hA;simp [CA,hR] at hB ⊢ <;> omega⟩) (fun j hj hne hL => hL) (by omega) (by omega) (by omega) (by omega) ?_ ?_ ?_ h.cl ?_ <;> first | omega | (intros;have hB:=hA;simp [hR,CA] at hB ⊢ <;> omega)
 ·exact .inl ⟨_,rfl,rfl,rfl,rfl,rfl,by rw [hr];constructor <;> intros <;> simp,evq hi (by decide)⟩
theorem goC2 (X : Cx n a q b rns h0 h1 h2 z0 z1 g cells evs k) (hj : k = 0) (hr : rns.getD k r0 = ⟨0,2,R,false⟩) (hR : R.length = 8) (hA : CA a z1 h1.length 2 (R.getD 0 0) (R.getD 1 0) (R.getD 2 0)) : Nx2 n a q b rns h0 h1 h2 z0 z1 g cells evs k:=by
 obtain ⟨y1,y2,y3,hlb,hgb,hz0r,hz1r,hs0,hs1⟩:=X.all
 have hi : _ = Ins.mk 1 2 1 0:=X.ins hr
 obtain ⟨hy,h,hk,hc⟩:=X
 have hst:=step1 (t:=pst rns h0 h1 h2 z0 z1 g cells evs) hk hr hi
 refine ⟨hst.1,rns.set k ⟨0,3,R.set 2 1,false⟩,h0,h1,h2,z0,z1,g,cells,hst.2.trans rfl,?_,?_⟩
 ·refine h.move hk hr (Loc.mkC0 y2.1 hj ⟨3,R.set 2 1,rfl,by simp [hR],by have hB:=hA;simp [CA,hR] at hB ⊢ <;> omega⟩) (fun j hj hne hL => hL) (by omega) (by omega) (by omega) (by omega) ?_ ?_ ?_ h.cl ?_ <;> first | omega | (intros;have hB:=hA;simp [hR,CA] at hB ⊢ <;> omega)
 ·exact .inl ⟨_,rfl,rfl,rfl,rfl,rfl,by rw [hr];constructor <;> intros <;> simp,evq hi (by decide)⟩
theorem goC3 (X : Cx n a q b rns h0 h1 h2 z0 z1 g cells evs k) (hj : k = 0) (hr : rns.getD k r0 = ⟨0,3,R,false⟩) (hR : R.length = 8) (hA : CA a z1 h1.length 3 (R.getD 0 0) (R.getD 1 0) (R.getD 2 0)) : Nx2 n a q b rns h0 h1 h2 z0 z1 g cells evs k:=by
 obtain ⟨y1,y2,y3,hlb,hgb,hz0r,hz1r,hs0,hs1⟩:=X.all
 have hi : _ = Ins.mk 3 0 1 5:=X.ins hr
 obtain ⟨hy,h,hk,hc⟩:=X
 by_cases hlt : R.getD 0 0 < R.getD 1 0
 ·have hst:=step3y (t:=pst rns h0 h1 h2 z0 z1 g cells evs) hk hr hi hlt
  refine ⟨hst.1,rns.set k ⟨0,5,R,false⟩,h0,h1,h2,z0,z1,g,cells,hst.2.trans rfl,?_,?_⟩
  ·refine h.move hk hr (Loc.mkC0 y2.1 hj ⟨5,R,rfl,by simp [hR],by have hB:=hA;simp [CA,hR] at hB ⊢ <;> omega⟩) (fun j hj hne hL => hL) (by omega) (by omega) (by omega) (by omega) ?_ ?_ ?_ h.cl ?_ <;> first | omega | (intros;have hB:=hA;simp [hR,CA] at hB ⊢ <;> omega)
  ·exact .inl ⟨_,rfl,rfl,rfl,rfl,rfl,by rw [hr];constructor <;> intros <;> simp,evq hi (by decide)⟩
 ·have hst:=step3n (t:=pst rns h0 h1 h2 z0 z1 g cells evs) hk hr hi hlt
  refine ⟨hst.1,rns.set k ⟨0,4,R,false⟩,h0,h1,h2,z0,z1,g,cells,hst.2.trans rfl,?_,?_⟩
  ·refine h.move hk hr (Loc.mkC0 y2.1 hj ⟨4,R,rfl,by simp [hR],by have hB:=hA;simp [CA,hR] at hB ⊢ <;> omega⟩) (fun j hj hne hL => hL) (by omega) (by omega) (by omega) (by omega) ?_ ?_ ?_ h.cl ?_ <;> first | omega | (intros;have hB:=hA;simp [hR,CA] at hB ⊢ <;> omega)
  ·exact .inl ⟨_,rfl,rfl,rfl,rfl,rfl,by rw [hr];constructor <;> intros <;> simp,evq hi (by decide)⟩
theorem goC4 (X : Cx n a q b rns h0 h1 h2 z0 z1 g cells evs k) (hj : k = 0) (hr : rns.getD k r0 = ⟨0,4,R,false⟩) (hR : R.length = 8) (hA : CA a z1 h1.length 4 (R.getD 0 0) (R.getD 1 0) (R.getD 2 0)) : Nx2 n a q b rns h0 h1 h2 z0 z1 g cells evs k:=by
 obtain ⟨y1,y2,y3,hlb,hgb,hz0r,hz1r,hs0,hs1⟩:=X.all
 have hi : _ = Ins.mk 4 0 0 9:=X.ins hr
 obtain ⟨hy,h,hk,hc⟩:=X
 have hst:=step4 (t:=pst rns h0 h1 h2 z0 z1 g cells evs) hk hr hi
 refine ⟨hst.1,rns.set k ⟨0,9,R,false⟩,h0,h1,h2,z0,z1,g,cells,hst.2.trans rfl,?_,?_⟩
 ·refine h.move hk hr (Loc.mkC0 y2.1 hj ⟨9,R,rfl,by simp [hR],by have hB:=hA;simp [CA,hR] at hB ⊢ <;> omega⟩) (fun j hj hne hL => hL) (by omega) (by omega) (by omega) (by omega) ?_ ?_ ?_ h.cl ?_ <;> first | omega | (intros;have hB:=hA;simp [hR,CA] at hB ⊢ <;> omega)
 ·exact .inl ⟨_,rfl,rfl,rfl,rfl,rfl,by rw [hr];constructor <;> intros <;> simp,evq hi (by decide)⟩
theorem goC5 (X : Cx n a q b rns h0 h1 h2 z0 z1 g cells evs k) (hj : k = 0) (hr : rns.getD k r0 = ⟨0,5,R,false⟩) (hR : R.length = 8) (hA : CA a z1 h1.length 5 (R.getD 0 0) (R.getD 1 0) (R.getD 2 0)) : Nx2 n a q b rns h0 h1 h2 z0 z1 g cells evs k:=by
 obtain ⟨y1,y2,y3,hlb,hgb,hz0r,hz1r,hs0,hs1⟩:=X.all
 have hi : _ = Ins.mk 10 0 1 0:=X.ins hr
 obtain ⟨hy,h,hk,hc⟩:=X
 have hg1 : 0 ≤ g:=hgb.1
 have hw : IntKind.i64.wrap (g + 1) = g + 1:=wrap_id (by omega)
 have hle:=h.len
 have hr3:=hr
 rw [hj] at hr3
 rw [hr3] at hle
 have hB:=hA
 simp [hR,CA] at hB hle
 have hst:=step10 (t:=pst rns h0 h1 h2 z0 z1 g cells evs) hk hr hi (v:=g + 1) hw (by omega)
 refine ⟨hst.1,rns.set k ⟨0,6,R,false⟩,h0,h1,h2,z0,z1,(g + 1),cells,hst.2.trans rfl,?_,?_⟩
 ·refine h.move hk hr (Loc.mkC0 y2.1 hj ⟨6,R,rfl,by simp [hR],by have hB:=hA;simp [CA,hR] at hB ⊢ <;> omega⟩) (fun j hj hne hL => hL.mono (fun _ _ _ => by first | omega | simp_all) (fun _ _ _ _ => by first | omega | simp_all) (fun _ => by first | rfl | omega) (fun _ => by first | exact ⟨rfl,id⟩ | omega)) (by omega) (by omega) (by omega) (by omega) ?_ ?_ ?_ h.cl ?_ <;> first | omega | (intros;have hB:=hA;simp [hR,CA] at hB ⊢ <;> omega)
 ·exact .inl ⟨_,rfl,rfl,rfl,rfl,rfl,by rw [hr];constructor <;> intros <;> simp,evq hi (by decide)⟩
theorem goC6 (X : Cx n a q b rns h0 h1 h2 z0 z1 g cells evs k) (hj : k = 0) (hr : rns.getD k r0 = ⟨0,6,R,false⟩) (hR : R.length = 8) (hA : CA a z1 h1.length 6 (R.getD 0 0) (R.getD 1 0) (R.getD 2 0)) : Nx2 n a q b rns h0 h1 h2 z0 z1 g cells evs k:=by
 obtain ⟨y1,y2,y3,hlb,hgb,hz0r,hz1r,hs0,hs1⟩:=X.all
 have hi : _ = Ins.mk 14 1 0 0:=X.ins hr
 obtain ⟨hy,h,hk,hc⟩:=X
 have hle:=h.len
 obtain rfl : k = 0:=hj
 rw [hr] at hle
 have hB:=hA
 simp [hR,CA] at hB hle
 have hst:=step14 (t:=pst rns h0 h1 h2 z0 z1 g cells evs) hk hr hi (by show rns.length < 512;omega)
 refine ⟨hst.1,rns.set 0 ⟨0,7,R,false⟩ ++ [⟨1,0,R,false⟩],h0,h1,h2,z0,z1,g,cells,hst.2.trans rfl,?_,?_⟩
 ·refine h.start hk hr (Loc.mkC0 y2.1 rfl ⟨7,R,rfl,by simp [hR],by have hB:=hA;simp [CA,hR] at hB ⊢ <;> omega⟩) (Loc.mkW (by omega) (by omega) ⟨0,R,rfl,hR,by unfold WA;omega⟩) ?_ ?_ ?_ ?_ <;> (have hB:=hA;simp [hR,CA] at hB ⊢ <;> omega)
 ·exact .inr (.inl ⟨_,_,rfl,rfl,rfl,rfl,rfl,rfl,by rw [hr];constructor <;> intros <;> simp,by constructor <;> intros <;> simp [r0],evq hi (by decide)⟩)
theorem goC7 (X : Cx n a q b rns h0 h1 h2 z0 z1 g cells evs k) (hj : k = 0) (hr : rns.getD k r0 = ⟨0,7,R,false⟩) (hR : R.length = 8) (hA : CA a z1 h1.length 7 (R.getD 0 0) (R.getD 1 0) (R.getD 2 0)) : Nx2 n a q b rns h0 h1 h2 z0 z1 g cells evs k:=by
 obtain ⟨y1,y2,y3,hlb,hgb,hz0r,hz1r,hs0,hs1⟩:=X.all
 have hi : _ = Ins.mk 2 0 2 0:=X.ins hr
 obtain ⟨hy,h,hk,hc⟩:=X
 have hB:=hA
 simp [CA] at hB
 have hw : IntKind.i64.wrap (R.getD 0 0 + R.getD 2 0) = R.getD 0 0 + 1:=by rw [wrap_id (by omega)];omega
 have hst:=step2 (t:=pst rns h0 h1 h2 z0 z1 g cells evs) hk hr hi
 rw [show ((0 : Int).toNat) = 0 from rfl,show ((2 : Int).toNat) = 2 from rfl,hw] at hst
 clear hB
 have hst:=hst
 refine ⟨hst.1,rns.set k ⟨0,8,R.set 0 (R.getD 0 0 + 1),false⟩,h0,h1,h2,z0,z1,g,cells,hst.2.trans rfl,?_,?_⟩
 ·refine h.move hk hr (Loc.mkC0 y2.1 hj ⟨8,R.set 0 (R.getD 0 0 + 1),rfl,by simp [hR],by have hB:=hA;simp [CA,hR] at hB ⊢ <;> omega⟩) (fun j hj hne hL => hL) (by omega) (by omega) (by omega) (by omega) ?_ ?_ ?_ h.cl ?_ <;> first | omega | (intros;have hB:=hA;simp [hR,CA] at hB ⊢ <;> omega)
 ·exact .inl ⟨_,rfl,rfl,rfl,rfl,rfl,by rw [hr];constructor <;> intros <;> simp,evq hi (by decide)⟩
theorem goC8 (X : Cx n a q b rns h0 h1 h2 z0 z1 g cells evs k) (hj : k = 0) (hr : rns.getD k r0 = ⟨0,8,R,false⟩) (hR : R.length = 8) (hA : CA a z1 h1.length 8 (R.getD 0 0) (R.getD 1 0) (R.getD 2 0)) : Nx2 n a q b rns h0 h1 h2 z0 z1 g cells evs k:=by
 obtain ⟨y1,y2,y3,hlb,hgb,hz0r,hz1r,hs0,hs1⟩:=X.all
 have hi : _ = Ins.mk 4 0 0 3:=X.ins hr
 obtain ⟨hy,h,hk,hc⟩:=X
 have hst:=step4 (t:=pst rns h0 h1 h2 z0 z1 g cells evs) hk hr hi
 refine ⟨hst.1,rns.set k ⟨0,3,R,false⟩,h0,h1,h2,z0,z1,g,cells,hst.2.trans rfl,?_,?_⟩
 ·refine h.move hk hr (Loc.mkC0 y2.1 hj ⟨3,R,rfl,by simp [hR],by have hB:=hA;simp [CA,hR] at hB ⊢ <;> omega⟩) (fun j hj hne hL => hL) (by omega) (by omega) (by omega) (by omega) ?_ ?_ ?_ h.cl ?_ <;> first | omega | (intros;have hB:=hA;simp [hR,CA] at hB ⊢ <;> omega)
 ·exact .inl ⟨_,rfl,rfl,rfl,rfl,rfl,by rw [hr];constructor <;> intros <;> simp,evq hi (by decide)⟩
theorem goC9 (X : Cx n a q b rns h0 h1 h2 z0 z1 g cells evs k) (hj : k = 0) (hr : rns.getD k r0 = ⟨0,9,R,false⟩) (hR : R.length = 8) (hA : CA a z1 h1.length 9 (R.getD 0 0) (R.getD 1 0) (R.getD 2 0)) : Nx2 n a q b rns h0 h1 h2 z0 z1 g cells evs k:=by
 obtain ⟨y1,y2,y3,hlb,hgb,hz0r,hz1r,hs0,hs1⟩:=X.all
 have hi : _ = Ins.mk 14 2 0 0:=X.ins hr
 obtain ⟨hy,h,hk,hc⟩:=X
 have hle:=h.len
 obtain rfl : k = 0:=hj
 rw [hr] at hle
 have hB:=hA
 simp [hR,CA] at hB hle
 have hst:=step14 (t:=pst rns h0 h1 h2 z0 z1 g cells evs) hk hr hi (by show rns.length < 512;omega)
 refine ⟨hst.1,rns.set 0 ⟨0,10,R,false⟩ ++ [⟨2,0,R,false⟩],h0,h1,h2,z0,z1,g,cells,hst.2.trans rfl,?_,?_⟩
 ·refine h.start hk hr (Loc.mkC0 y2.1 rfl ⟨10,R,rfl,by simp [hR],by have hB:=hA;simp [CA,hR] at hB ⊢ <;> omega⟩) (Loc.mkF y2.1 (by omega) ⟨0,R,rfl,hR,by unfold FA;omega⟩) ?_ ?_ ?_ ?_ <;> (have hB:=hA;simp [hR,CA] at hB ⊢ <;> omega)
 ·exact .inr (.inl ⟨_,_,rfl,rfl,rfl,rfl,rfl,rfl,by rw [hr];constructor <;> intros <;> simp,by constructor <;> intros <;> simp [r0],evq hi (by decide)⟩)
theorem goC10 (X : Cx n a q b rns h0 h1 h2 z0 z1 g cells evs k) (hj : k = 0) (hr : rns.getD k r0 = ⟨0,10,R,false⟩) (hR : R.length = 8) (hA : CA a z1 h1.length 10 (R.getD 0 0) (R.getD 1 0) (R.getD 2 0)) : Nx2 n a q b rns h0 h1 h2 z0 z1 g cells evs k:=by
 obtain ⟨y1,y2,y3,hlb,hgb,hz0r,hz1r,hs0,hs1⟩:=X.all
 have hi : _ = Ins.mk 14 3 0 0:=X.ins hr
 obtain ⟨hy,h,hk,hc⟩:=X
 have hle:=h.len
 obtain rfl : k = 0:=hj
 rw [hr] at hle
 have hB:=hA
 simp [hR,CA] at hB hle
 have hst:=step14 (t:=pst rns h0 h1 h2 z0 z1 g cells evs) hk hr hi (by show rns.length < 512;omega)
 refine ⟨hst.1,rns.set 0 ⟨0,11,R,false⟩ ++ [⟨3,0,R,false⟩],h0,h1,h2,z0,z1,g,cells,hst.2.trans rfl,?_,?_⟩
 ·refine h.start hk hr (Loc.mkC0 y2.1 rfl ⟨11,R,rfl,by simp [hR],by have hB:=hA;simp [CA,hR] at hB ⊢ <;> omega⟩) (Loc.mkK y2.1 (by omega) ⟨0,R,rfl,hR,by unfold KA;omega⟩) ?_ ?_ ?_ ?_ <;> (have hB:=hA;simp [hR,CA] at hB ⊢ <;> omega)
 ·exact .inr (.inl ⟨_,_,rfl,rfl,rfl,rfl,rfl,rfl,by rw [hr];constructor <;> intros <;> simp,by constructor <;> intros <;> simp [r0],evq hi (by decide)⟩)
theorem goC11 (X : Cx n a q b rns h0 h1 h2 z0 z1 g cells evs k) (hj : k = 0) (hr : rns.getD k r0 = ⟨0,11,R,false⟩) (hR : R.length = 8) (hA : CA a z1 h1.length 11 (R.getD 0 0) (R.getD 1 0) (R.getD 2 0)) : Nx2 n a q b rns h0 h1 h2 z0 z1 g cells evs k:=by
 obtain ⟨y1,y2,y3,hlb,hgb,hz0r,hz1r,hs0,hs1⟩:=X.all
 have hi : _ = Ins.mk 6 1 3 14:=X.ins hr
 obtain ⟨hy,h,hk,hc⟩:=X
 rcases hH : h1 with _ | ⟨x,xs⟩
 ·rw [can6 (by show (rns.getD k r0).ended = _;rw [hr]) hi] at hc
  subst hH;have hz : z1 = 1:=by simpa [pst,gDQ] using hc
  have hst:=step6e (t:=pst rns h0 [] h2 z0 z1 g cells evs) hk hr hi rfl
  refine ⟨hst.1,rns.set k ⟨0,14,R,false⟩,h0,[],h2,z0,z1,g,cells,hst.2.trans rfl,?_,?_⟩
  ·refine h.move hk hr (Loc.mkC0 y2.1 hj ⟨14,R,rfl,by simp [hR],by have hB:=hA;simp [CA,hR] at hB ⊢ <;> omega⟩) (fun j hj hne hL => hL) (by omega) (by omega) (by omega) (by omega) ?_ ?_ ?_ h.cl ?_ <;> first | omega | (intros;have hB:=hA;simp [hR,CA] at hB ⊢ <;> omega)
  ·exact .inl ⟨_,rfl,rfl,rfl,rfl,rfl,by rw [hr];constructor <;> intros <;> simp,evqs hi rfl⟩
 ·subst hH
  have hln : ((x :: xs).length : Int) = xs.length + 1:=by simp
  have hst:=step6 (t:=pst rns h0 (x :: xs) h2 z0 z1 g cells evs) hk hr hi (x:=x) (xs:=xs) rfl
  refine ⟨hst.1,rns.set k ⟨0,12,R.set 3 x,false⟩,h0,xs,h2,z0,z1,g,cells,hst.2.trans rfl,?_,?_⟩
  ·refine h.move hk hr (Loc.mkC0 y2.1 hj ⟨12,R.set 3 x,rfl,by simp [hR],by have hB:=hA;simp [CA,hR] at hB ⊢ <;> omega⟩) (fun j hj hne hL => hL.mono (fun _ _ _ => by first | omega | simp_all) (fun _ _ _ _ => by first | omega | simp_all) (fun _ => by first | rfl | omega) (fun _ => by first | exact ⟨rfl,id⟩ | omega)) (by omega) (by omega) (by omega) (by omega) ?_ ?_ ?_ h.cl ?_ <;> first | omega | (intros;have hB:=hA;simp [hR,CA] at hB ⊢ <;> omega)
  ·exact .inr (.inr (.inr (.inr (.inr (.inr (.inr (.inr (.inr (.inr (.inr (.inl (⟨R,x,hr,hR,hj,rfl,rfl,rfl,rfl,rfl,ev6 hi rfl⟩))))))))))))
theorem goC12 (X : Cx n a q b rns h0 h1 h2 z0 z1 g cells evs k) (hj : k = 0) (hr : rns.getD k r0 = ⟨0,12,R,false⟩) (hR : R.length = 8) (hA : CA a z1 h1.length 12 (R.getD 0 0) (R.getD 1 0) (R.getD 2 0)) : Nx2 n a q b rns h0 h1 h2 z0 z1 g cells evs k:=by
 obtain ⟨y1,y2,y3,hlb,hgb,hz0r,hz1r,hs0,hs1⟩:=X.all
 have hi : _ = Ins.mk 15 1 3 0:=X.ins hr
 obtain ⟨hy,h,hk,hc⟩:=X
 have hst:=step15 (t:=pst rns h0 h1 h2 z0 z1 g cells evs) hk hr hi
 refine ⟨hst.1,rns.set k ⟨0,13,R,false⟩,h0,h1,h2,z0,z1,g,cells,hst.2.trans rfl,?_,?_⟩
 ·refine h.move hk hr (Loc.mkC0 y2.1 hj ⟨13,R,rfl,by simp [hR],by have hB:=hA;simp [CA,hR] at hB ⊢ <;> omega⟩) (fun j hj hne hL => hL) (by omega) (by omega) (by omega) (by omega) ?_ ?_ ?_ h.cl ?_ <;> first | omega | (intros;have hB:=hA;simp [hR,CA] at hB ⊢ <;> omega)
 ·exact .inr (.inr (.inr (.inr (.inr (.inr (.inr (.inr (.inr (.inr (.inr (.inr ⟨R,hr,hR,hj,rfl,rfl,rfl,rfl,rfl,ev15 (t:=pst rns h0 h1 h2 z0 z1 g cells evs) hr hi⟩)))))))))))
theorem goC13 (X : Cx n a q b rns h0 h1 h2 z0 z1 g cells evs k) (hj : k = 0) (hr : rns.getD k r0 = ⟨0,13,R,false⟩) (hR : R.length = 8) (hA : CA a z1 h1.length 13 (R.getD 0 0) (R.getD 1 0) (R.getD 2 0)) : Nx2 n a q b rns h0 h1 h2 z0 z1 g cells evs k:=by
 obtain ⟨y1,y2,y3,hlb,hgb,hz0r,hz1r,hs0,hs1⟩:=X.all
 have hi : _ = Ins.mk 4 0 0 11:=X.ins hr
 obtain ⟨hy,h,hk,hc⟩:=X
 have hst:=step4 (t:=pst rns h0 h1 h2 z0 z1 g cells evs) hk hr hi
 refine ⟨hst.1,rns.set k ⟨0,11,R,false⟩,h0,h1,h2,z0,z1,g,cells,hst.2.trans rfl,?_,?_⟩
 ·refine h.move hk hr (Loc.mkC0 y2.1 hj ⟨11,R,rfl,by simp [hR],by have hB:=hA;simp [CA,hR] at hB ⊢ <;> omega⟩) (fun j hj hne hL => hL) (by omega) (by omega) (by omega) (by omega) ?_ ?_ ?_ h.cl ?_ <;> first | omega | (intros;have hB:=hA;simp [hR,CA] at hB ⊢ <;> omega)
 ·exact .inl ⟨_,rfl,rfl,rfl,rfl,rfl,by rw [hr];constructor <;> intros <;> simp,evq hi (by decide)⟩
theorem goC14 (X : Cx n a q b rns h0 h1 h2 z0 z1 g cells evs k) (hj : k = 0) (hr : rns.getD k r0 = ⟨0,14,R,false⟩) (hR : R.length = 8) (hA : CA a z1 h1.length 14 (R.getD 0 0) (R.getD 1 0) (R.getD 2 0)) : Nx2 n a q b rns h0 h1 h2 z0 z1 g cells evs k:=by
 obtain ⟨y1,y2,y3,hlb,hgb,hz0r,hz1r,hs0,hs1⟩:=X.all
 have hi : _ = Ins.mk 16 0 0 0:=X.ins hr
 obtain ⟨hy,h,hk,hc⟩:=X
 have hst:=step16 (t:=pst rns h0 h1 h2 z0 z1 g cells evs) hk hr hi
 refine ⟨hst.1,rns.set k ⟨0,15,R,true⟩,h0,h1,h2,z0,z1,g,cells,hst.2.trans rfl,?_,?_⟩
 ·refine h.move hk hr (Loc.mkC0 y2.1 hj ⟨15,R,rfl,by simp [hR],by have hB:=hA;simp [CA,hR] at hB ⊢ <;> omega⟩) (fun j hj hne hL => hL) (by omega) (by omega) (by omega) (by omega) ?_ ?_ ?_ h.cl ?_ <;> first | omega | (intros;have hB:=hA;simp [hR,CA] at hB ⊢ <;> omega)
 ·exact .inl ⟨_,rfl,rfl,rfl,rfl,rfl,by rw [hr];constructor <;> intros <;> simp,evq hi (by decide)⟩
theorem goC (X : Cx n a q b rns h0 h1 h2 z0 z1 g cells evs k) (hj : k = 0) : Nx2 n a q b rns h0 h1 h2 z0 z1 g cells evs k:=by
 obtain ⟨hy,h,hk,hc⟩:=X
 have y2:=hy.a0
 have he:=can_going hc
 obtain ⟨p,R,hr,hR,hA⟩:=(h.loc k hk).c hj
 have hre : (rn (pst rns h0 h1 h2 z0 z1 g cells evs) k).ended = decide (p = 15):=by unfold rn pst;dsimp only;rw [hr]
 rw [hre] at he
 have hpe : p ≠ 15:=of_decide_eq_false he
 clear hre he
 have hp : p = 0 ∨ p = 1 ∨ p = 2 ∨ p = 3 ∨ p = 4 ∨ p = 5 ∨ p = 6 ∨ p = 7 ∨ p = 8 ∨ p = 9 ∨ p = 10 ∨ p = 11 ∨ p = 12 ∨ p = 13 ∨ p = 14:=by unfold CA at hA;omega
 rcases hp with rfl | rfl | rfl | rfl | rfl | rfl | rfl | rfl | rfl | rfl | rfl | rfl | rfl | rfl | rfl
 ·exact goC0 ⟨hy,h,hk,hc⟩ hj hr hR hA
 ·exact goC1 ⟨hy,h,hk,hc⟩ hj hr hR hA
 ·exact goC2 ⟨hy,h,hk,hc⟩ hj hr hR hA
 ·exact goC3 ⟨hy,h,hk,hc⟩ hj hr hR hA
 ·exact goC4 ⟨hy,h,hk,hc⟩ hj hr hR hA
 ·exact goC5 ⟨hy,h,hk,hc⟩ hj hr hR hA
 ·exact goC6 ⟨hy,h,hk,hc⟩ hj hr hR hA
 ·exact goC7 ⟨hy,h,hk,hc⟩ hj hr hR hA
 ·exact goC8 ⟨hy,h,hk,hc⟩ hj hr hR hA
 ·exact goC9 ⟨hy,h,hk,hc⟩ hj hr hR hA
 ·exact goC10 ⟨hy,h,hk,hc⟩ hj hr hR hA
 ·exact goC11 ⟨hy,h,hk,hc⟩ hj hr hR hA
 ·exact goC12 ⟨hy,h,hk,hc⟩ hj hr hR hA
 ·exact goC13 ⟨hy,h,hk,hc⟩ hj hr hR hA
 ·exact goC14 ⟨hy,h,hk,hc⟩ hj hr hR hA
theorem goW0 (X : Cx n a q b rns h0 h1 h2 z0 z1 g cells evs k) (hj : 1 ≤ k) (hj2 : (k : Int) ≤ a) (hr : rns.getD k r0 = ⟨1,0,R,false⟩) (hR : R.length = 8) (hA : WA z0 h0.length 0) : Nx2 n a q b rns h0 h1 h2 z0 z1 g cells evs k:=by
 obtain ⟨y1,y2,y3,hlb,hgb,hz0r,hz1r,hs0,hs1⟩:=X.all
 have hi : _ = Ins.mk 6 0 3 6:=X.ins hr
 obtain ⟨hy,h,hk,hc⟩:=X
 rcases hH : h0 with _ | ⟨x,xs⟩
 ·rw [can6 (by show (rns.getD k r0).ended = _;rw [hr]) hi] at hc
  subst hH;have hz : z0 = 1:=by simpa [pst,gDQ] using hc
  have hst:=step6e (t:=pst rns [] h1 h2 z0 z1 g cells evs) hk hr hi rfl
  refine ⟨hst.1,rns.set k ⟨1,6,R,false⟩,[],h1,h2,z0,z1,g,cells,hst.2.trans rfl,?_,?_⟩
  ·refine h.move hk hr (Loc.mkW hj hj2 ⟨6,R,rfl,by simp [hR],by have hB:=hA;simp [WA,hR] at hB ⊢ <;> omega⟩) (fun j hj hne hL => hL) (by omega) (by omega) (by omega) (by omega) ?_ ?_ ?_ h.cl ?_ <;> first | omega | (intros;have hB:=hA;simp [hR,WA] at hB ⊢ <;> omega)
  ·exact .inl ⟨_,rfl,rfl,rfl,rfl,rfl,by rw [hr];constructor <;> intros <;> simp,evqs hi rfl⟩
 ·subst hH
  have hln : ((x :: xs).length : Int) = xs.length + 1:=by simp
  have hst:=step6 (t:=pst rns (x :: xs) h1 h2 z0 z1 g cells evs) hk hr hi (x:=x) (xs:=xs) rfl
  refine ⟨hst.1,rns.set k ⟨1,1,R.set 3 x,false⟩,xs,h1,h2,z0,z1,g,cells,hst.2.trans rfl,?_,?_⟩
  ·refine h.move hk hr (Loc.mkW hj hj2 ⟨1,R.set 3 x,rfl,by simp [hR],by have hB:=hA;simp [WA,hR] at hB ⊢ <;> omega⟩) (fun j hj hne hL => hL.mono (fun _ _ _ => by first | omega | simp_all) (fun _ _ _ _ => by first | omega | simp_all) (fun _ => by first | rfl | omega) (fun _ => by first | exact ⟨rfl,id⟩ | omega)) (by omega) (by omega) (by omega) (by omega) ?_ ?_ ?_ h.cl ?_ <;> first | omega | (intros;have hB:=hA;simp [hR,WA] at hB ⊢ <;> omega)
  ·exact .inr (.inr (.inl (⟨R,x,hr,hR,hj,rfl,rfl,rfl,rfl,rfl,ev6 hi rfl⟩)))
theorem goW1 (X : Cx n a q b rns h0 h1 h2 z0 z1 g cells evs k) (hj : 1 ≤ k) (hj2 : (k : Int) ≤ a) (hr : rns.getD k r0 = ⟨1,1,R,false⟩) (hR : R.length = 8) (hA : WA z0 h0.length 1) : Nx2 n a q b rns h0 h1 h2 z0 z1 g cells evs k:=by
 obtain ⟨y1,y2,y3,hlb,hgb,hz0r,hz1r,hs0,hs1⟩:=X.all
 have hi : _ = Ins.mk 12 3 4 0:=X.ins hr
 obtain ⟨hy,h,hk,hc⟩:=X
 have hcel : cel (psys n a q b) (pst rns h0 h1 h2 z0 z1 g cells evs) k = R.getD 3 0 % (cells.length : Int):=by unfold cel reg rest;rw [hi];unfold rn pst;dsimp only;rw [hr];rfl
 have hst0:=step12 (t:=pst rns h0 h1 h2 z0 z1 g cells evs) hk hr hi
 rw [hcel] at hst0
 have hst:=hst0
 refine ⟨hst.1,rns.set k ⟨1,2,R.set 4 (cells.getD (R.getD 3 0 % (cells.length : Int)).toNat 0),false⟩,h0,h1,h2,z0,z1,g,cells,hst.2.trans rfl,?_,?_⟩
 ·refine h.move hk hr (Loc.mkW hj hj2 ⟨2,R.set 4 (cells.getD (R.getD 3 0 % (cells.length : Int)).toNat 0),rfl,by simp [hR],by have hB:=hA;simp [WA,hR] at hB ⊢ <;> omega⟩) (fun j hj hne hL => hL) (by omega) (by omega) (by omega) (by omega) ?_ ?_ ?_ h.cl ?_ <;> first | omega | (intros;have hB:=hA;simp [hR,WA] at hB ⊢ <;> omega)
 ·exact .inr (.inr (.inr (.inl (⟨R,hr,hR,hj,rfl,rfl,rfl,rfl,rfl,ev12 hi hcel⟩))))
theorem goW2 (X : Cx n a q b rns h0 h1 h2 z0 z1 g cells evs k) (hj : 1 ≤ k) (hj2 : (k : Int) ≤ a) (hr : rns.getD k r0 = ⟨1,2,R,false⟩) (hR : R.length = 8) (hA : WA z0 h0.length 2) : Nx2 n a q b rns h0 h1 h2 z0 z1 g cells evs k:=by
 obtain ⟨y1,y2,y3,hlb,hgb,hz0r,hz1r,hs0,hs1⟩:=X.all
 have hi : _ = Ins.mk 15 0 4 0:=X.ins hr
 obtain ⟨hy,h,hk,hc⟩:=X
 have hst:=step15 (t:=pst rns h0 h1 h2 z0 z1 g cells evs) hk hr hi
 refine ⟨hst.1,rns.set k ⟨1,3,R,false⟩,h0,h1,h2,z0,z1,g,cells,hst.2.trans rfl,?_,?_⟩
 ·refine h.move hk hr (Loc.mkW hj hj2 ⟨3,R,rfl,by simp [hR],by have hB:=hA;simp [WA,hR] at hB ⊢ <;> omega⟩) (fun j hj hne hL => hL) (by omega) (by omega) (by omega) (by omega) ?_ ?_ ?_ h.cl ?_ <;> first | omega | (intros;have hB:=hA;simp [hR,WA] at hB ⊢ <;> omega)
 ·exact .inr (.inr (.inr (.inr (.inl ⟨R,hr,hR,hj,rfl,rfl,rfl,rfl,rfl,ev15 (t:=pst rns h0 h1 h2 z0 z1 g cells evs) hr hi⟩))))
theorem goW3 (X : Cx n a q b rns h0 h1 h2 z0 z1 g cells evs k) (hj : 1 ≤ k) (hj2 : (k : Int) ≤ a) (hr : rns.getD k r0 = ⟨1,3,R,false⟩) (hR : R.length = 8) (hA : WA z0 h0.length 3) : Nx2 n a q b rns h0 h1 h2 z0 z1 g cells evs k:=by
 obtain ⟨y1,y2,y3,hlb,hgb,hz0r,hz1r,hs0,hs1⟩:=X.all
 have hi : _ = Ins.mk 5 2 3 0:=X.ins hr
 obtain ⟨hy,h,hk,hc⟩:=X
 have hln : ((h2 ++ [R.getD 3 0]).length : Int) = h2.length + 1:=by simp
 have hst:=step5 (t:=pst rns h0 h1 h2 z0 z1 g cells evs) hk hr hi rfl
 refine ⟨hst.1,rns.set k ⟨1,4,R,false⟩,h0,h1,(h2 ++ [R.getD 3 0]),z0,z1,g,cells,hst.2.trans rfl,?_,?_⟩
 ·refine h.move hk hr (Loc.mkW hj hj2 ⟨4,R,rfl,by simp [hR],by have hB:=hA;simp [WA,hR] at hB ⊢ <;> omega⟩) (fun j hj hne hL => hL.mono (fun _ _ _ => by first | omega | simp_all) (fun _ _ _ _ => by first | omega | simp_all) (fun _ => by first | rfl | omega) (fun _ => by first | exact ⟨rfl,id⟩ | omega)) (by omega) (by omega) (by omega) (by omega) ?_ ?_ ?_ h.cl ?_ <;> first | omega | (intros;have hB:=hA;simp [hR,WA] at hB ⊢ <;> omega)
 ·exact .inr (.inr (.inr (.inr (.inr (.inl (⟨R,hr,hR,hj,rfl,rfl,rfl,rfl,rfl,ev5 (t:=pst rns h0 h1 h2 z0 z1 g cells evs) hr hi rfl⟩))))))
theorem goW4 (X : Cx n a q b rns h0 h1 h2 z0 z1 g cells evs k) (hj : 1 ≤ k) (hj2 : (k : Int) ≤ a) (hr : rns.getD k r0 = ⟨1,4,R,false⟩) (hR : R.length = 8) (hA : WA z0 h0.length 4) : Nx2 n a q b rns h0 h1 h2 z0 z1 g cells evs k:=by
 obtain ⟨y1,y2,y3,hlb,hgb,hz0r,hz1r,hs0,hs1⟩:=X.all
 have hi : _ = Ins.mk 5 1 4 0:=X.ins hr
 obtain ⟨hy,h,hk,hc⟩:=X
 have hz1:=h.open1 y2.1 (h.g1 hk (by rw [hr];simp [gc]))
 have hln : ((h1 ++ [R.getD 4 0]).length : Int) = h1.length + 1:=by simp
 have hst:=step5 (t:=pst rns h0 h1 h2 z0 z1 g cells evs) hk hr hi (by show decide (z1 = 1) = false;exact decide_eq_false (by omega))
 refine ⟨hst.1,rns.set k ⟨1,5,R,false⟩,h0,(h1 ++ [R.getD 4 0]),h2,z0,z1,g,cells,hst.2.trans rfl,?_,?_⟩
 ·refine h.move hk hr (Loc.mkW hj hj2 ⟨5,R,rfl,by simp [hR],by have hB:=hA;simp [WA,hR] at hB ⊢ <;> omega⟩) (fun j hj hne hL => hL.mono (fun _ _ _ => by first | omega | simp_all) (fun _ _ _ _ => by first | omega | simp_all) (fun _ => by first | rfl | omega) (fun _ => by first | exact ⟨rfl,id⟩ | omega)) (by omega) (by omega) (by omega) (by omega) ?_ ?_ ?_ h.cl ?_ <;> first | omega | (intros;have hB:=hA;simp [hR,WA] at hB ⊢ <;> omega)
 ·exact .inr (.inr (.inr (.inr (.inr (.inr (.inl (⟨R,hr,hR,hj,rfl,rfl,rfl,rfl,rfl,ev5 (t:=pst rns h0 h1 h2 z0 z1 g cells evs) hr hi (by show decide (z1 = 1) = false;exact decide_eq_false (by omega))⟩)))))))
theorem goW5 (X : Cx n a q b rns h0 h1 h2 z0 z1 g cells evs k) (hj : 1 ≤ k) (hj2 : (k : Int) ≤ a) (hr : rns.getD k r0 = ⟨1,5,R,false⟩) (hR : R.length = 8) (hA : WA z0 h0.length 5) : Nx2 n a q b rns h0 h1 h2 z0 z1 g cells evs k:=by
 obtain ⟨y1,y2,y3,hlb,hgb,hz0r,hz1r,hs0,hs1⟩:=X.all
 have hi : _ = Ins.mk 4 0 0 0:=X.ins hr
 obtain ⟨hy,h,hk,hc⟩:=X
 have hst:=step4 (t:=pst rns h0 h1 h2 z0 z1 g cells evs) hk hr hi
 refine ⟨hst.1,rns.set k ⟨1,0,R,false⟩,h0,h1,h2,z0,z1,g,cells,hst.2.trans rfl,?_,?_⟩
 ·refine h.move hk hr (Loc.mkW hj hj2 ⟨0,R,rfl,by simp [hR],by have hB:=hA;simp [WA,hR] at hB ⊢ <;> omega⟩) (fun j hj hne hL => hL) (by omega) (by omega) (by omega) (by omega) ?_ ?_ ?_ h.cl ?_ <;> first | omega | (intros;have hB:=hA;simp [hR,WA] at hB ⊢ <;> omega)
 ·exact .inl ⟨_,rfl,rfl,rfl,rfl,rfl,by rw [hr];constructor <;> intros <;> simp,evq hi (by decide)⟩
theorem goW6 (X : Cx n a q b rns h0 h1 h2 z0 z1 g cells evs k) (hj : 1 ≤ k) (hj2 : (k : Int) ≤ a) (hr : rns.getD k r0 = ⟨1,6,R,false⟩) (hR : R.length = 8) (hA : WA z0 h0.length 6) : Nx2 n a q b rns h0 h1 h2 z0 z1 g cells evs k:=by
 obtain ⟨y1,y2,y3,hlb,hgb,hz0r,hz1r,hs0,hs1⟩:=X.all
 have hi : _ = Ins.mk 10 0 (-1) 0:=X.ins hr
 obtain ⟨hy,h,hk,hc⟩:=X
 have hg1 : 1 ≤ g:=h.g1 hk (by rw [hr];simp [gc])
 have hw : IntKind.i64.wrap (g + (-1 : Int)) = g + (-1 : Int):=wrap_id (by omega)
 have hst:=step10 (t:=pst rns h0 h1 h2 z0 z1 g cells evs) hk hr hi (v:=g + (-1 : Int)) hw (by omega)
 refine ⟨hst.1,rns.set k ⟨1,7,R,false⟩,h0,h1,h2,z0,z1,(g + (-1 : Int)),cells,hst.2.trans rfl,?_,?_⟩
 ·refine h.move hk hr (Loc.mkW hj hj2 ⟨7,R,rfl,by simp [hR],by have hB:=hA;simp [WA,hR] at hB ⊢ <;> omega⟩) (fun j hj hne hL => hL.mono (fun _ _ _ => by first | omega | simp_all) (fun _ _ _ _ => by first | omega | simp_all) (fun _ => by first | rfl | omega) (fun _ => by first | exact ⟨rfl,id⟩ | omega)) (by omega) (by omega) (by omega) (by omega) ?_ ?_ ?_ h.cl ?_ <;> first | omega | (intros;have hB:=hA;simp [hR,WA] at hB ⊢ <;> omega)
 ·exact .inl ⟨_,rfl,rfl,rfl,rfl,rfl,by rw [hr];constructor <;> intros <;> simp,evq hi (by decide)⟩
theorem goW7 (X : Cx n a q b rns h0 h1 h2 z0 z1 g cells evs k) (hj : 1 ≤ k) (hj2 : (k : Int) ≤ a) (hr : rns.getD k r0 = ⟨1,7,R,false⟩) (hR : R.length = 8) (hA : WA z0 h0.length 7) : Nx2 n a q b rns h0 h1 h2 z0 z1 g cells evs k:=by
 obtain ⟨y1,y2,y3,hlb,hgb,hz0r,hz1r,hs0,hs1⟩:=X.all
 have hi : _ = Ins.mk 16 0 0 0:=X.ins hr
 obtain ⟨hy,h,hk,hc⟩:=X
 have hst:=step16 (t:=pst rns h0 h1 h2 z0 z1 g cells evs) hk hr hi
 refine ⟨hst.1,rns.set k ⟨1,8,R,true⟩,h0,h1,h2,z0,z1,g,cells,hst.2.trans rfl,?_,?_⟩
 ·refine h.move hk hr (Loc.mkW hj hj2 ⟨8,R,rfl,by simp [hR],by have hB:=hA;simp [WA,hR] at hB ⊢ <;> omega⟩) (fun j hj hne hL => hL) (by omega) (by omega) (by omega) (by omega) ?_ ?_ ?_ h.cl ?_ <;> first | omega | (intros;have hB:=hA;simp [hR,WA] at hB ⊢ <;> omega)
 ·exact .inl ⟨_,rfl,rfl,rfl,rfl,rfl,by rw [hr];constructor <;> intros <;> simp,evq hi (by decide)⟩
theorem goW (X : Cx n a q b rns h0 h1 h2 z0 z1 g cells evs k) (hj : 1 ≤ k) (hj2 : (k : Int) ≤ a) : Nx2 n a q b rns h0 h1 h2 z0 z1 g cells evs k:=by
 obtain ⟨hy,h,hk,hc⟩:=X
 have y2:=hy.a0
 have he:=can_going hc
 obtain ⟨p,R,hr,hR,hA⟩:=(h.loc k hk).w hj hj2
 have hre : (rn (pst rns h0 h1 h2 z0 z1 g cells evs) k).ended = decide (p = 8):=by unfold rn pst;dsimp only;rw [hr]
 rw [hre] at he
 have hpe : p ≠ 8:=of_decide_eq_false he
 clear hre he
 have hp : p = 0 ∨ p = 1 ∨ p = 2 ∨ p = 3 ∨ p = 4 ∨ p = 5 ∨ p = 6 ∨ p = 7:=by unfold WA at hA;omega
 rcases hp with rfl | rfl | rfl | rfl | rfl | rfl | rfl | rfl
 ·exact goW0 ⟨hy,h,hk,hc⟩ hj hj2 hr hR hA
 ·exact goW1 ⟨hy,h,hk,hc⟩ hj hj2 hr hR hA
 ·exact goW2 ⟨hy,h,hk,hc⟩ hj hj2 hr hR hA
 ·exact goW3 ⟨hy,h,hk,hc⟩ hj hj2 hr hR hA
 ·exact goW4 ⟨hy,h,hk,hc⟩ hj hj2 hr hR hA
 ·exact goW5 ⟨hy,h,hk,hc⟩ hj hj2 hr hR hA
 ·exact goW6 ⟨hy,h,hk,hc⟩ hj hj2 hr hR hA
 ·exact goW7 ⟨hy,h,hk,hc⟩ hj hj2 hr hR hA
theorem goF0 (X : Cx n a q b rns h0 h1 h2 z0 z1 g cells evs k) (hj : (k : Int) = a + 1) (hr : rns.getD k r0 = ⟨2,0,R,false⟩) (hR : R.length = 8) (hA : FA n b z0 0 (R.getD 0 0) (R.getD 1 0) (R.getD 2 0)) : Nx2 n a q b rns h0 h1 h2 z0 z1 g cells evs k:=by
 obtain ⟨y1,y2,y3,hlb,hgb,hz0r,hz1r,hs0,hs1⟩:=X.all
 have hi : _ = Ins.mk 1 0 0 0:=X.ins hr
 obtain ⟨hy,h,hk,hc⟩:=X
 have hst:=step1 (t:=pst rns h0 h1 h2 z0 z1 g cells evs) hk hr hi
 refine ⟨hst.1,rns.set k ⟨2,1,R.set 0 0,false⟩,h0,h1,h2,z0,z1,g,cells,hst.2.trans rfl,?_,?_⟩
 ·refine h.move hk hr (Loc.mkF y2.1 hj ⟨1,R.set 0 0,rfl,by simp [hR],by have hB:=hA;simp [FA,hR] at hB ⊢ <;> omega⟩) (fun j hj hne hL => hL) (by omega) (by omega) (by omega) (by omega) ?_ ?_ ?_ h.cl ?_ <;> first | omega | (intros;have hB:=hA;simp [hR,FA] at hB ⊢ <;> omega)
 ·exact .inl ⟨_,rfl,rfl,rfl,rfl,rfl,by rw [hr];(have hB:=hA;constructor <;> intros <;> simp [hR,FA] at hB ⊢ <;> omega),evq hi (by decide)⟩
theorem goF1 (X : Cx n a q b rns h0 h1 h2 z0 z1 g cells evs k) (hj : (k : Int) = a + 1) (hr : rns.getD k r0 = ⟨2,1,R,false⟩) (hR : R.length = 8) (hA : FA n b z0 1 (R.getD 0 0) (R.getD 1 0) (R.getD 2 0)) : Nx2 n a q b rns h0 h1 h2 z0 z1 g cells evs k:=by
 obtain ⟨y1,y2,y3,hlb,hgb,hz0r,hz1r,hs0,hs1⟩:=X.all
 have hi : _ = Ins.mk 1 1 b 0:=X.ins hr
 obtain ⟨hy,h,hk,hc⟩:=X
 have hst:=step1 (t:=pst rns h0 h1 h2 z0 z1 g cells evs) hk hr hi
 refine ⟨hst.1,rns.set k ⟨2,2,R.set 1 b,false⟩,h0,h1,h2,z0,z1,g,cells,hst.2.trans rfl,?_,?_⟩
 ·refine h.move hk hr (Loc.mkF y2.1 hj ⟨2,R.set 1 b,rfl,by simp [hR],by have hB:=hA;simp [FA,hR] at hB ⊢ <;> omega⟩) (fun j hj hne hL => hL) (by omega) (by omega) (by omega) (by omega) ?_ ?_ ?_ h.cl ?_ <;> first | omega | (intros;have hB:=hA;simp [hR,FA] at hB ⊢ <;> omega)
 ·exact .inl ⟨_,rfl,rfl,rfl,rfl,rfl,by rw [hr];(have hB:=hA;constructor <;> intros <;> simp [hR,FA] at hB ⊢ <;> omega),evq hi (by decide)⟩
theorem goF2 (X : Cx n a q b rns h0 h1 h2 z0 z1 g cells evs k) (hj : (k : Int) = a + 1) (hr : rns.getD k r0 = ⟨2,2,R,false⟩) (hR : R.length = 8) (hA : FA n b z0 2 (R.getD 0 0) (R.getD 1 0) (R.getD 2 0)) : Nx2 n a q b rns h0 h1 h2 z0 z1 g cells evs k:=by
 obtain ⟨y1,y2,y3,hlb,hgb,hz0r,hz1r,hs0,hs1⟩:=X.all
 have hi : _ = Ins.mk 1 2 1 0:=X.ins hr
 obtain ⟨hy,h,hk,hc⟩:=X
 have hst:=step1 (t:=pst rns h0 h1 h2 z0 z1 g cells evs) hk hr hi
 refine ⟨hst.1,rns.set k ⟨2,3,R.set 2 1,false⟩,h0,h1,h2,z0,z1,g,cells,hst.2.trans rfl,?_,?_⟩
 ·refine h.move hk hr (Loc.mkF y2.1 hj ⟨3,R.set 2 1,rfl,by simp [hR],by have hB:=hA;simp [FA,hR] at hB ⊢ <;> omega⟩) (fun j hj hne hL => hL) (by omega) (by omega) (by omega) (by omega) ?_ ?_ ?_ h.cl ?_ <;> first | omega | (intros;have hB:=hA;simp [hR,FA] at hB ⊢ <;> omega)
 ·exact .inl ⟨_,rfl,rfl,rfl,rfl,rfl,by rw [hr];(have hB:=hA;constructor <;> intros <;> simp [hR,FA] at hB ⊢ <;> omega),evq hi (by decide)⟩
theorem goF3 (X : Cx n a q b rns h0 h1 h2 z0 z1 g cells evs k) (hj : (k : Int) = a + 1) (hr : rns.getD k r0 = ⟨2,3,R,false⟩) (hR : R.length = 8) (hA : FA n b z0 3 (R.getD 0 0) (R.getD 1 0) (R.getD 2 0)) : Nx2 n a q b rns h0 h1 h2 z0 z1 g cells evs k:=by
 obtain ⟨y1,y2,y3,hlb,hgb,hz0r,hz1r,hs0,hs1⟩:=X.all
 have hi : _ = Ins.mk 3 0 1 5:=X.ins hr
 obtain ⟨hy,h,hk,hc⟩:=X
 by_cases hlt : R.getD 0 0 < R.getD 1 0
 ·have hst:=step3y (t:=pst rns h0 h1 h2 z0 z1 g cells evs) hk hr hi hlt
  refine ⟨hst.1,rns.set k ⟨2,5,R,false⟩,h0,h1,h2,z0,z1,g,cells,hst.2.trans rfl,?_,?_⟩
  ·refine h.move hk hr (Loc.mkF y2.1 hj ⟨5,R,rfl,by simp [hR],by have hB:=hA;simp [FA,hR] at hB ⊢ <;> omega⟩) (fun j hj hne hL => hL) (by omega) (by omega) (by omega) (by omega) ?_ ?_ ?_ h.cl ?_ <;> first | omega | (intros;have hB:=hA;simp [hR,FA] at hB ⊢ <;> omega)
  ·exact .inl ⟨_,rfl,rfl,rfl,rfl,rfl,by rw [hr];(have hB:=hA;constructor <;> intros <;> simp [hR,FA] at hB ⊢ <;> omega),evq hi (by decide)⟩
 ·have hst:=step3n (t:=pst rns h0 h1 h2 z0 z1 g cells evs) hk hr hi hlt
  refine ⟨hst.1,rns.set k ⟨2,4,R,false⟩,h0,h1,h2,z0,z1,g,cells,hst.2.trans rfl,?_,?_⟩
  ·refine h.move hk hr (Loc.mkF y2.1 hj ⟨4,R,rfl,by simp [hR],by have hB:=hA;simp [FA,hR] at hB ⊢ <;> omega⟩) (fun j hj hne hL => hL) (by omega) (by omega) (by omega) (by omega) ?_ ?_ ?_ h.cl ?_ <;> first | omega | (intros;have hB:=hA;simp [hR,FA] at hB ⊢ <;> omega)
  ·exact .inl ⟨_,rfl,rfl,rfl,rfl,rfl,by rw [hr];(have hB:=hA;constructor <;> intros <;> simp [hR,FA] at hB ⊢ <;> omega),evq hi (by decide)⟩
theorem goF4 (X : Cx n a q b rns h0 h1 h2 z0 z1 g cells evs k) (hj : (k : Int) = a + 1) (hr : rns.getD k r0 = ⟨2,4,R,false⟩) (hR : R.length = 8) (hA : FA n b z0 4 (R.getD 0 0) (R.getD 1 0) (R.getD 2 0)) : Nx2 n a q b rns h0 h1 h2 z0 z1 g cells evs k:=by
 obtain ⟨y1,y2,y3,hlb,hgb,hz0r,hz1r,hs0,hs1⟩:=X.all
 have hi : _ = Ins.mk 4 0 0 8:=X.ins hr
 obtain ⟨hy,h,hk,hc⟩:=X
 have hst:=step4 (t:=pst rns h0 h1 h2 z0 z1 g cells evs) hk hr hi
 refine ⟨hst.1,rns.set k ⟨2,8,R,false⟩,h0,h1,h2,z0,z1,g,cells,hst.2.trans rfl,?_,?_⟩
 ·refine h.move hk hr (Loc.mkF y2.1 hj ⟨8,R,rfl,by simp [hR],by have hB:=hA;simp [FA,hR] at hB ⊢ <;> omega⟩) (fun j hj hne hL => hL) (by omega) (by omega) (by omega) (by omega) ?_ ?_ ?_ h.cl ?_ <;> first | omega | (intros;have hB:=hA;simp [hR,FA] at hB ⊢ <;> omega)
 ·exact .inl ⟨_,rfl,rfl,rfl,rfl,rfl,by rw [hr];(have hB:=hA;constructor <;> intros <;> simp [hR,FA] at hB ⊢ <;> omega),evq hi (by decide)⟩
theorem goF5 (X : Cx n a q b rns h0 h1 h2 z0 z1 g cells evs k) (hj : (k : Int) = a + 1) (hr : rns.getD k r0 = ⟨2,5,R,false⟩) (hR : R.length = 8) (hA : FA n b z0 5 (R.getD 0 0) (R.getD 1 0) (R.getD 2 0)) : Nx2 n a q b rns h0 h1 h2 z0 z1 g cells evs k:=by
 obtain ⟨y1,y2,y3,hlb,hgb,hz0r,hz1r,hs0,hs1⟩:=X.all
 have hi : _ = Ins.mk 5 2 0 0:=X.ins hr
 obtain ⟨hy,h,hk,hc⟩:=X
 have hln : ((h2 ++ [R.getD 0 0]).length : Int) = h2.length + 1:=by simp
 have hlo:=h.one (lay b) (fun r hr => by simp [lay,hr]) hk hj
 have hst:=step5 (t:=pst rns h0 h1 h2 z0 z1 g cells evs) hk hr hi rfl
 refine ⟨hst.1,rns.set k ⟨2,6,R,false⟩,h0,h1,(h2 ++ [R.getD 0 0]),z0,z1,g,cells,hst.2.trans rfl,?_,?_⟩
 ·refine h.move hk hr (Loc.mkF y2.1 hj ⟨6,R,rfl,by simp [hR],by have hB:=hA;simp [FA,hR] at hB ⊢ <;> omega⟩) (fun j hj hne hL => hL.mono (fun _ _ _ => by first | omega | simp_all) (fun _ _ _ _ => by first | omega | simp_all) (fun _ => by first | rfl | omega) (fun _ => by first | exact ⟨rfl,id⟩ | omega)) (by omega) (by omega) (by omega) (by omega) ?_ ?_ ?_ h.cl ?_ <;> first | omega | (intros;have hB:=hA;simp [hR,FA] at hB ⊢ <;> omega)
 ·exact .inr (.inr (.inr (.inr (.inr (.inr (.inr (.inl (⟨R,hr,hR,by omega,by rw [hlo,hr];(have hB:=hA;simp [FA] at hB ⊢ <;> omega),rfl,rfl,rfl,rfl,rfl,ev5 (t:=pst rns h0 h1 h2 z0 z1 g cells evs) hr hi rfl⟩))))))))
theorem goF6 (X : Cx n a q b rns h0 h1 h2 z0 z1 g cells evs k) (hj : (k : Int) = a + 1) (hr : rns.getD k r0 = ⟨2,6,R,false⟩) (hR : R.length = 8) (hA : FA n b z0 6 (R.getD 0 0) (R.getD 1 0) (R.getD 2 0)) : Nx2 n a q b rns h0 h1 h2 z0 z1 g cells evs k:=by
 obtain ⟨y1,y2,y3,hlb,hgb,hz0r,hz1r,hs0,hs1⟩:=X.all
 have hi : _ = Ins.mk 2 0 2 0:=X.ins hr
 obtain ⟨hy,h,hk,hc⟩:=X
 have hB:=hA
 simp [FA] at hB
 have hw : IntKind.i64.wrap (R.getD 0 0 + R.getD 2 0) = R.getD 0 0 + 1:=by rw [wrap_id (by omega)];omega
 have hst:=step2 (t:=pst rns h0 h1 h2 z0 z1 g cells evs) hk hr hi
 rw [show ((0 : Int).toNat) = 0 from rfl,show ((2 : Int).toNat) = 2 from rfl,hw] at hst
 clear hB
 have hst:=hst
 refine ⟨hst.1,rns.set k ⟨2,7,R.set 0 (R.getD 0 0 + 1),false⟩,h0,h1,h2,z0,z1,g,cells,hst.2.trans rfl,?_,?_⟩
 ·refine h.move hk hr (Loc.mkF y2.1 hj ⟨7,R.set 0 (R.getD 0 0 + 1),rfl,by simp [hR],by have hB:=hA;simp [FA,hR] at hB ⊢ <;> omega⟩) (fun j hj hne hL => hL) (by omega) (by omega) (by omega) (by omega) ?_ ?_ ?_ h.cl ?_ <;> first | omega | (intros;have hB:=hA;simp [hR,FA] at hB ⊢ <;> omega)
 ·exact .inl ⟨_,rfl,rfl,rfl,rfl,rfl,by rw [hr];(have hB:=hA;constructor <;> intros <;> simp [hR,FA] at hB ⊢ <;> omega),evq hi (by decide)⟩
theorem goF7 (X : Cx n a q b rns h0 h1 h2 z0 z1 g cells evs k) (hj : (k : Int) = a + 1) (hr : rns.getD k r0 = ⟨2,7,R,false⟩) (hR : R.length = 8) (hA : FA n b z0 7 (R.getD 0 0) (R.getD 1 0) (R.getD 2 0)) : Nx2 n a q b rns h0 h1 h2 z0 z1 g cells evs k:=by
 obtain ⟨y1,y2,y3,hlb,hgb,hz0r,hz1r,hs0,hs1⟩:=X.all
 have hi : _ = Ins.mk 4 0 0 3:=X.ins hr
 obtain ⟨hy,h,hk,hc⟩:=X
 have hst:=step4 (t:=pst rns h0 h1 h2 z0 z1 g cells evs) hk hr hi
 refine ⟨hst.1,rns.set k ⟨2,3,R,false⟩,h0,h1,h2,z0,z1,g,cells,hst.2.trans rfl,?_,?_⟩
 ·refine h.move hk hr (Loc.mkF y2.1 hj ⟨3,R,rfl,by simp [hR],by have hB:=hA;simp [FA,hR] at hB ⊢ <;> omega⟩) (fun j hj hne hL => hL) (by omega) (by omega) (by omega) (by omega) ?_ ?_ ?_ h.cl ?_ <;> first | omega | (intros;have hB:=hA;simp [hR,FA] at hB ⊢ <;> omega)
 ·exact .inl ⟨_,rfl,rfl,rfl,rfl,rfl,by rw [hr];(have hB:=hA;constructor <;> intros <;> simp [hR,FA] at hB ⊢ <;> omega),evq hi (by decide)⟩
theorem goF8 (X : Cx n a q b rns h0 h1 h2 z0 z1 g cells evs k) (hj : (k : Int) = a + 1) (hr : rns.getD k r0 = ⟨2,8,R,false⟩) (hR : R.length = 8) (hA : FA n b z0 8 (R.getD 0 0) (R.getD 1 0) (R.getD 2 0)) : Nx2 n a q b rns h0 h1 h2 z0 z1 g cells evs k:=by
 obtain ⟨y1,y2,y3,hlb,hgb,hz0r,hz1r,hs0,hs1⟩:=X.all
 have hi : _ = Ins.mk 1 0 0 0:=X.ins hr
 obtain ⟨hy,h,hk,hc⟩:=X
 have hst:=step1 (t:=pst rns h0 h1 h2 z0 z1 g cells evs) hk hr hi
 refine ⟨hst.1,rns.set k ⟨2,9,R.set 0 0,false⟩,h0,h1,h2,z0,z1,g,cells,hst.2.trans rfl,?_,?_⟩
 ·refine h.move hk hr (Loc.mkF y2.1 hj ⟨9,R.set 0 0,rfl,by simp [hR],by have hB:=hA;simp [FA,hR] at hB ⊢ <;> omega⟩) (fun j hj hne hL => hL) (by omega) (by omega) (by omega) (by omega) ?_ ?_ ?_ h.cl ?_ <;> first | omega | (intros;have hB:=hA;simp [hR,FA] at hB ⊢ <;> omega)
 ·exact .inl ⟨_,rfl,rfl,rfl,rfl,rfl,by rw [hr];(have hB:=hA;constructor <;> intros <;> simp [hR,FA] at hB ⊢ <;> omega),evq hi (by decide)⟩
theorem goF9 (X : Cx n a q b rns h0 h1 h2 z0 z1 g cells evs k) (hj : (k : Int) = a + 1) (hr : rns.getD k r0 = ⟨2,9,R,false⟩) (hR : R.length = 8) (hA : FA n b z0 9 (R.getD 0 0) (R.getD 1 0) (R.getD 2 0)) : Nx2 n a q b rns h0 h1 h2 z0 z1 g cells evs k:=by
 obtain ⟨y1,y2,y3,hlb,hgb,hz0r,hz1r,hs0,hs1⟩:=X.all
 have hi : _ = Ins.mk 1 1 n 0:=X.ins hr
 obtain ⟨hy,h,hk,hc⟩:=X
 have hst:=step1 (t:=pst rns h0 h1 h2 z0 z1 g cells evs) hk hr hi
 refine ⟨hst.1,rns.set k ⟨2,10,R.set 1 n,false⟩,h0,h1,h2,z0,z1,g,cells,hst.2.trans rfl,?_,?_⟩
 ·refine h.move hk hr (Loc.mkF y2.1 hj ⟨10,R.set 1 n,rfl,by simp [hR],by have hB:=hA;simp [FA,hR] at hB ⊢ <;> omega⟩) (fun j hj hne hL => hL) (by omega) (by omega) (by omega) (by omega) ?_ ?_ ?_ h.cl ?_ <;> first | omega | (intros;have hB:=hA;simp [hR,FA] at hB ⊢ <;> omega)
 ·exact .inl ⟨_,rfl,rfl,rfl,rfl,rfl,by rw [hr];(have hB:=hA;constructor <;> intros <;> simp [hR,FA] at hB ⊢ <;> omega),evq hi (by decide)⟩
theorem goF10 (X : Cx n a q b rns h0 h1 h2 z0 z1 g cells evs k) (hj : (k : Int) = a + 1) (hr : rns.getD k r0 = ⟨2,10,R,false⟩) (hR : R.length = 8) (hA : FA n b z0 10 (R.getD 0 0) (R.getD 1 0) (R.getD 2 0)) : Nx2 n a q b rns h0 h1 h2 z0 z1 g cells evs k:=by
 obtain ⟨y1,y2,y3,hlb,hgb,hz0r,hz1r,hs0,hs1⟩:=X.all
 have hi : _ = Ins.mk 3 0 1 12:=X.ins hr
 obtain ⟨hy,h,hk,hc⟩:=X
 by_cases hlt : R.getD 0 0 < R.getD 1 0
 ·have hst:=step3y (t:=pst rns h0 h1 h2 z0 z1 g cells evs) hk hr hi hlt
  refine ⟨hst.1,rns.set k ⟨2,12,R,false⟩,h0,h1,h2,z0,z1,g,cells,hst.2.trans rfl,?_,?_⟩
  ·refine h.move hk hr (Loc.mkF y2.1 hj ⟨12,R,rfl,by simp [hR],by have hB:=hA;simp [FA,hR] at hB ⊢ <;> omega⟩) (fun j hj hne hL => hL) (by omega) (by omega) (by omega) (by omega) ?_ ?_ ?_ h.cl ?_ <;> first | omega | (intros;have hB:=hA;simp [hR,FA] at hB ⊢ <;> omega)
  ·exact .inl ⟨_,rfl,rfl,rfl,rfl,rfl,by rw [hr];(have hB:=hA;constructor <;> intros <;> simp [hR,FA] at hB ⊢ <;> omega),evq hi (by decide)⟩
 ·have hst:=step3n (t:=pst rns h0 h1 h2 z0 z1 g cells evs) hk hr hi hlt
  refine ⟨hst.1,rns.set k ⟨2,11,R,false⟩,h0,h1,h2,z0,z1,g,cells,hst.2.trans rfl,?_,?_⟩
  ·refine h.move hk hr (Loc.mkF y2.1 hj ⟨11,R,rfl,by simp [hR],by have hB:=hA;simp [FA,hR] at hB ⊢ <;> omega⟩) (fun j hj hne hL => hL) (by omega) (by omega) (by omega) (by omega) ?_ ?_ ?_ h.cl ?_ <;> first | omega | (intros;have hB:=hA;simp [hR,FA] at hB ⊢ <;> omega)
  ·exact .inl ⟨_,rfl,rfl,rfl,rfl,rfl,by rw [hr];(have hB:=hA;constructor <;> intros <;> simp [hR,FA] at hB ⊢ <;> omega),evq hi (by decide)⟩
theorem goF11 (X : Cx n a q b rns h0 h1 h2 z0 z1 g cells evs k) (hj : (k : Int) = a + 1) (hr : rns.getD k r0 = ⟨2,11,R,false⟩) (hR : R.length = 8) (hA : FA n b z0 11 (R.getD 0 0) (R.getD 1 0) (R.getD 2 0)) : Nx2 n a q b rns h0 h1 h2 z0 z1 g cells evs k:=by
 obtain ⟨y1,y2,y3,hlb,hgb,hz0r,hz1r,hs0,hs1⟩:=X.all
 have hi : _ = Ins.mk 4 0 0 17:=X.ins hr
 obtain ⟨hy,h,hk,hc⟩:=X
 have hst:=step4 (t:=pst rns h0 h1 h2 z0 z1 g cells evs) hk hr hi
 refine ⟨hst.1,rns.set k ⟨2,17,R,false⟩,h0,h1,h2,z0,z1,g,cells,hst.2.trans rfl,?_,?_⟩
 ·refine h.move hk hr (Loc.mkF y2.1 hj ⟨17,R,rfl,by simp [hR],by have hB:=hA;simp [FA,hR] at hB ⊢ <;> omega⟩) (fun j hj hne hL => hL) (by omega) (by omega) (by omega) (by omega) ?_ ?_ ?_ h.cl ?_ <;> first | omega | (intros;have hB:=hA;simp [hR,FA] at hB ⊢ <;> omega)
 ·exact .inl ⟨_,rfl,rfl,rfl,rfl,rfl,by rw [hr];(have hB:=hA;constructor <;> intros <;> simp [hR,FA] at hB ⊢ <;> omega),evq hi (by decide)⟩
theorem goF12 (X : Cx n a q b rns h0 h1 h2 z0 z1 g cells evs k) (hj : (k : Int) = a + 1) (hr : rns.getD k r0 = ⟨2,12,R,false⟩) (hR : R.length = 8) (hA : FA n b z0 12 (R.getD 0 0) (R.getD 1 0) (R.getD 2 0)) : Nx2 n a q b rns h0 h1 h2 z0 z1 g cells evs k:=by
 obtain ⟨y1,y2,y3,hlb,hgb,hz0r,hz1r,hs0,hs1⟩:=X.all
 have hi : _ = Ins.mk 6 2 3 17:=X.ins hr
 obtain ⟨hy,h,hk,hc⟩:=X
 rcases hH : h2 with _ | ⟨x,xs⟩
 ·rw [can6 (by show (rns.getD k r0).ended = _;rw [hr]) hi] at hc
  subst hH;simp [pst,gDQ] at hc
 ·subst hH
  have hln : ((x :: xs).length : Int) = xs.length + 1:=by simp
  have hst:=step6 (t:=pst rns h0 h1 (x :: xs) z0 z1 g cells evs) hk hr hi (x:=x) (xs:=xs) rfl
  refine ⟨hst.1,rns.set k ⟨2,13,R.set 3 x,false⟩,h0,h1,xs,z0,z1,g,cells,hst.2.trans rfl,?_,?_⟩
  ·refine h.move hk hr (Loc.mkF y2.1 hj ⟨13,R.set 3 x,rfl,by simp [hR],by have hB:=hA;simp [FA,hR] at hB ⊢ <;> omega⟩) (fun j hj hne hL => hL.mono (fun _ _ _ => by first | omega | simp_all) (fun _ _ _ _ => by first | omega | simp_all) (fun _ => by first | rfl | omega) (fun _ => by first | exact ⟨rfl,id⟩ | omega)) (by omega) (by omega) (by omega) (by omega) ?_ ?_ ?_ h.cl ?_ <;> first | omega | (intros;have hB:=hA;simp [hR,FA] at hB ⊢ <;> omega)
  ·exact .inr (.inr (.inr (.inr (.inr (.inr (.inr (.inr (.inl (⟨R,x,hr,hR,by omega,rfl,rfl,rfl,rfl,rfl,ev6 hi rfl⟩)))))))))
theorem goF13 (X : Cx n a q b rns h0 h1 h2 z0 z1 g cells evs k) (hj : (k : Int) = a + 1) (hr : rns.getD k r0 = ⟨2,13,R,false⟩) (hR : R.length = 8) (hA : FA n b z0 13 (R.getD 0 0) (R.getD 1 0) (R.getD 2 0)) : Nx2 n a q b rns h0 h1 h2 z0 z1 g cells evs k:=by
 obtain ⟨y1,y2,y3,hlb,hgb,hz0r,hz1r,hs0,hs1⟩:=X.all
 have hi : _ = Ins.mk 13 3 0 0:=X.ins hr
 obtain ⟨hy,h,hk,hc⟩:=X
 have hcel : cel (psys n a q b) (pst rns h0 h1 h2 z0 z1 g cells evs) k = R.getD 3 0 % (cells.length : Int):=by unfold cel reg rest;rw [hi];unfold rn pst;dsimp only;rw [hr];rfl
 have hst0:=step13 (t:=pst rns h0 h1 h2 z0 z1 g cells evs) hk hr hi
 rw [hcel] at hst0
 have hfo:=h.one (fed n) (fun r hr => by simp [fed,hr]) hk hj
 have hst:=hst0
 refine ⟨hst.1,rns.set k ⟨2,14,R,false⟩,h0,h1,h2,z0,z1,g,cells.set (R.getD 3 0 % (cells.length : Int)).toNat (R.getD 0 0),hst.2.trans rfl,?_,?_⟩
 ·refine h.move hk hr (Loc.mkF y2.1 hj ⟨14,R,rfl,by simp [hR],by have hB:=hA;simp [FA,hR] at hB ⊢ <;> omega⟩) (fun j hj hne hL => hL) (by omega) (by omega) (by omega) (by omega) ?_ ?_ ?_ (by rw [List.length_set];exact h.cl) ?_ <;> first | omega | (intros;have hB:=hA;simp [hR,FA] at hB ⊢ <;> omega)
 ·exact .inr (.inr (.inr (.inr (.inr (.inr (.inr (.inr (.inr (.inl (⟨R,hr,hR,by omega,by rw [hfo,hr];(have hB:=hA;simp [FA] at hB ⊢ <;> omega),rfl,rfl,rfl,rfl,rfl,ev13 (t:=pst rns h0 h1 h2 z0 z1 g cells evs) hr hi hcel⟩))))))))))
theorem goF14 (X : Cx n a q b rns h0 h1 h2 z0 z1 g cells evs k) (hj : (k : Int) = a + 1) (hr : rns.getD k r0 = ⟨2,14,R,false⟩) (hR : R.length = 8) (hA : FA n b z0 14 (R.getD 0 0) (R.getD 1 0) (R.getD 2 0)) : Nx2 n a q b rns h0 h1 h2 z0 z1 g cells evs k:=by
 obtain ⟨y1,y2,y3,hlb,hgb,hz0r,hz1r,hs0,hs1⟩:=X.all
 have hi : _ = Ins.mk 5 0 3 0:=X.ins hr
 obtain ⟨hy,h,hk,hc⟩:=X
 have hz0 : z0 = 0:=by unfold FA at hA;omega
 have hln : ((h0 ++ [R.getD 3 0]).length : Int) = h0.length + 1:=by simp
 have hst:=step5 (t:=pst rns h0 h1 h2 z0 z1 g cells evs) hk hr hi (by show decide (z0 = 1) = false;exact decide_eq_false (by omega))
 refine ⟨hst.1,rns.set k ⟨2,15,R,false⟩,(h0 ++ [R.getD 3 0]),h1,h2,z0,z1,g,cells,hst.2.trans rfl,?_,?_⟩
 ·refine h.move hk hr (Loc.mkF y2.1 hj ⟨15,R,rfl,by simp [hR],by have hB:=hA;simp [FA,hR] at hB ⊢ <;> omega⟩) (fun j hj hne hL => hL.mono (fun _ _ _ => by first | omega | simp_all) (fun _ _ _ _ => by first | omega | simp_all) (fun _ => by first | rfl | omega) (fun _ => by first | exact ⟨rfl,id⟩ | omega)) (by omega) (by omega) (by omega) (by omega) ?_ ?_ ?_ h.cl ?_ <;> first | omega | (intros;have hB:=hA;simp [hR,FA] at hB ⊢ <;> omega)
 ·exact .inr (.inr (.inr (.inr (.inr (.inr (.inr (.inr (.inr (.inr (.inl (⟨R,hr,hR,by omega,rfl,rfl,rfl,rfl,rfl,ev5 (t:=pst rns h0 h1 h2 z0 z1 g cells evs) hr hi (by show decide (z0 = 1) = false;exact decide_eq_false (by omega))⟩)))))))))))
theorem goF15 (X : Cx n a q b rns h0 h1 h2 z0 z1 g cells evs k) (hj : (k : Int) = a + 1) (hr : rns.getD k r0 = ⟨2,15,R,false⟩) (hR : R.length = 8) (hA : FA n b z0 15 (R.getD 0 0) (R.getD 1 0) (R.getD 2 0)) : Nx2 n a q b rns h0 h1 h2 z0 z1 g cells evs k:=by
 obtain ⟨y1,y2,y3,hlb,hgb,hz0r,hz1r,hs0,hs1⟩:=X.all
 have hi : _ = Ins.mk 2 0 2 0:=X.ins hr
 obtain ⟨hy,h,hk,hc⟩:=X
 have hB:=hA
 simp [FA] at hB
 have hw : IntKind.i64.wrap (R.getD 0 0 + R.getD 2 0) = R.getD 0 0 + 1:=by rw [wrap_id (by omega)];omega
 have hst:=step2 (t:=pst rns h0 h1 h2 z0 z1 g cells evs) hk hr hi
 rw [show ((0 : Int).toNat) = 0 from rfl,show ((2 : Int).toNat) = 2 from rfl,hw] at hst
 clear hB
 have hst:=hst
 refine ⟨hst.1,rns.set k ⟨2,16,R.set 0 (R.getD 0 0 + 1),false⟩,h0,h1,h2,z0,z1,g,cells,hst.2.trans rfl,?_,?_⟩
 ·refine h.move hk hr (Loc.mkF y2.1 hj ⟨16,R.set 0 (R.getD 0 0 + 1),rfl,by simp [hR],by have hB:=hA;simp [FA,hR] at hB ⊢ <;> omega⟩) (fun j hj hne hL => hL) (by omega) (by omega) (by omega) (by omega) ?_ ?_ ?_ h.cl ?_ <;> first | omega | (intros;have hB:=hA;simp [hR,FA] at hB ⊢ <;> omega)
 ·exact .inl ⟨_,rfl,rfl,rfl,rfl,rfl,by rw [hr];(have hB:=hA;constructor <;> intros <;> simp [hR,FA] at hB ⊢ <;> omega),evq hi (by decide)⟩
theorem goF16 (X : Cx n a q b rns h0 h1 h2 z0 z1 g cells evs k) (hj : (k : Int) = a + 1) (hr : rns.getD k r0 = ⟨2,16,R,false⟩) (hR : R.length = 8) (hA : FA n b z0 16 (R.getD 0 0) (R.getD 1 0) (R.getD 2 0)) : Nx2 n a q b rns h0 h1 h2 z0 z1 g cells evs k:=by
 obtain ⟨y1,y2,y3,hlb,hgb,hz0r,hz1r,hs0,hs1⟩:=X.all
 have hi : _ = Ins.mk 4 0 0 10:=X.ins hr
 obtain ⟨hy,h,hk,hc⟩:=X
 have hst:=step4 (t:=pst rns h0 h1 h2 z0 z1 g cells evs) hk hr hi
 refine ⟨hst.1,rns.set k ⟨2,10,R,false⟩,h0,h1,h2,z0,z1,g,cells,hst.2.trans rfl,?_,?_⟩
 ·refine h.move hk hr (Loc.mkF y2.1 hj ⟨10,R,rfl,by simp [hR],by have hB:=hA;simp [FA,hR] at hB ⊢ <;> omega⟩) (fun j hj hne hL => hL) (by omega) (by omega) (by omega) (by omega) ?_ ?_ ?_ h.cl ?_ <;> first | omega | (intros;have hB:=hA;simp [hR,FA] at hB ⊢ <;> omega)
 ·exact .inl ⟨_,rfl,rfl,rfl,rfl,rfl,by rw [hr];(have hB:=hA;constructor <;> intros <;> simp [hR,FA] at hB ⊢ <;> omega),evq hi (by decide)⟩
theorem goF17 (X : Cx n a q b rns h0 h1 h2 z0 z1 g cells evs k) (hj : (k : Int) = a + 1) (hr : rns.getD k r0 = ⟨2,17,R,false⟩) (hR : R.length = 8) (hA : FA n b z0 17 (R.getD 0 0) (R.getD 1 0) (R.getD 2 0)) : Nx2 n a q b rns h0 h1 h2 z0 z1 g cells evs k:=by
 obtain ⟨y1,y2,y3,hlb,hgb,hz0r,hz1r,hs0,hs1⟩:=X.all
 have hi : _ = Ins.mk 7 0 0 0:=X.ins hr
 obtain ⟨hy,h,hk,hc⟩:=X
 have hz : z0 = 0:=by unfold FA at hA;omega
 subst hz
 have hst:=step7 (t:=pst rns h0 h1 h2 0 z1 g cells evs) hk hr hi rfl
 refine ⟨hst.1,rns.set k ⟨2,18,R,false⟩,h0,h1,h2,1,z1,g,cells,hst.2.trans rfl,?_,?_⟩
 ·refine h.move hk hr (Loc.mkF y2.1 hj ⟨18,R,rfl,by simp [hR],by have hB:=hA;simp [FA,hR] at hB ⊢ <;> omega⟩) (fun j hj hne hL => hL.mono (fun _ _ _ => by first | omega | simp_all) (fun _ _ _ _ => by first | omega | simp_all) (fun _ => by first | rfl | omega) (fun _ => by first | exact ⟨rfl,id⟩ | omega)) (by omega) (by omega) (by omega) (by omega) ?_ ?_ ?_ h.cl ?_ <;> first | omega | (intros;have hB:=hA;simp [hR,FA] at hB ⊢ <;> omega)
 ·exact .inl ⟨_,rfl,rfl,rfl,rfl,rfl,by rw [hr];(have hB:=hA;constructor <;> intros <;> simp [hR,FA] at hB ⊢ <;> omega),evq hi (by decide)⟩
theorem goF18 (X : Cx n a q b rns h0 h1 h2 z0 z1 g cells evs k) (hj : (k : Int) = a + 1) (hr : rns.getD k r0 = ⟨2,18,R,false⟩) (hR : R.length = 8) (hA : FA n b z0 18 (R.getD 0 0) (R.getD 1 0) (R.getD 2 0)) : Nx2 n a q b rns h0 h1 h2 z0 z1 g cells evs k:=by
 obtain ⟨y1,y2,y3,hlb,hgb,hz0r,hz1r,hs0,hs1⟩:=X.all
 have hi : _ = Ins.mk 16 0 0 0:=X.ins hr
 obtain ⟨hy,h,hk,hc⟩:=X
 have hst:=step16 (t:=pst rns h0 h1 h2 z0 z1 g cells evs) hk hr hi
 refine ⟨hst.1,rns.set k ⟨2,19,R,true⟩,h0,h1,h2,z0,z1,g,cells,hst.2.trans rfl,?_,?_⟩
 ·refine h.move hk hr (Loc.mkF y2.1 hj ⟨19,R,rfl,by simp [hR],by have hB:=hA;simp [FA,hR] at hB ⊢ <;> omega⟩) (fun j hj hne hL => hL) (by omega) (by omega) (by omega) (by omega) ?_ ?_ ?_ h.cl ?_ <;> first | omega | (intros;have hB:=hA;simp [hR,FA] at hB ⊢ <;> omega)
 ·exact .inl ⟨_,rfl,rfl,rfl,rfl,rfl,by rw [hr];(have hB:=hA;constructor <;> intros <;> simp [hR,FA] at hB ⊢ <;> omega),evq hi (by decide)⟩
theorem goF (X : Cx n a q b rns h0 h1 h2 z0 z1 g cells evs k) (hj : (k : Int) = a + 1) : Nx2 n a q b rns h0 h1 h2 z0 z1 g cells evs k:=by
 obtain ⟨hy,h,hk,hc⟩:=X
 have y2:=hy.a0
 have he:=can_going hc
 obtain ⟨p,R,hr,hR,hA⟩:=(h.loc k hk).f hj
 have hre : (rn (pst rns h0 h1 h2 z0 z1 g cells evs) k).ended = decide (p = 19):=by unfold rn pst;dsimp only;rw [hr]
 rw [hre] at he
 have hpe : p ≠ 19:=of_decide_eq_false he
 clear hre he
 have hp : p = 0 ∨ p = 1 ∨ p = 2 ∨ p = 3 ∨ p = 4 ∨ p = 5 ∨ p = 6 ∨ p = 7 ∨ p = 8 ∨ p = 9 ∨ p = 10 ∨ p = 11 ∨ p = 12 ∨ p = 13 ∨ p = 14 ∨ p = 15 ∨ p = 16 ∨ p = 17 ∨ p = 18:=by unfold FA at hA;omega
 rcases hp with rfl | rfl | rfl | rfl | rfl | rfl | rfl | rfl | rfl | rfl | rfl | rfl | rfl | rfl | rfl | rfl | rfl | rfl | rfl
 ·exact goF0 ⟨hy,h,hk,hc⟩ hj hr hR hA
 ·exact goF1 ⟨hy,h,hk,hc⟩ hj hr hR hA
 ·exact goF2 ⟨hy,h,hk,hc⟩ hj hr hR hA
 ·exact goF3 ⟨hy,h,hk,hc⟩ hj hr hR hA
 ·exact goF4 ⟨hy,h,hk,hc⟩ hj hr hR hA
 ·exact goF5 ⟨hy,h,hk,hc⟩ hj hr hR hA
 ·exact goF6 ⟨hy,h,hk,hc⟩ hj hr hR hA
 ·exact goF7 ⟨hy,h,hk,hc⟩ hj hr hR hA
 ·exact goF8 ⟨hy,h,hk,hc⟩ hj hr hR hA
 ·exact goF9 ⟨hy,h,hk,hc⟩ hj hr hR hA
 ·exact goF10 ⟨hy,h,hk,hc⟩ hj hr hR hA
 ·exact goF11 ⟨hy,h,hk,hc⟩ hj hr hR hA
 ·exact goF12 ⟨hy,h,hk,hc⟩ hj hr hR hA
 ·exact goF13 ⟨hy,h,hk,hc⟩ hj hr hR hA
 ·exact goF14 ⟨hy,h,hk,hc⟩ hj hr hR hA
 ·exact goF15 ⟨hy,h,hk,hc⟩ hj hr hR hA
 ·exact goF16 ⟨hy,h,hk,hc⟩ hj hr hR hA
 ·exact goF17 ⟨hy,h,hk,hc⟩ hj hr hR hA
 ·exact goF18 ⟨hy,h,hk,hc⟩ hj hr hR hA
theorem goK0 (X : Cx n a q b rns h0 h1 h2 z0 z1 g cells evs k) (hj : a + 2 ≤ (k : Int)) (hr : rns.getD k r0 = ⟨3,0,R,false⟩) (hR : R.length = 8) (hA : KA z1 g 0) : Nx2 n a q b rns h0 h1 h2 z0 z1 g cells evs k:=by
 obtain ⟨y1,y2,y3,hlb,hgb,hz0r,hz1r,hs0,hs1⟩:=X.all
 have hi : _ = Ins.mk 11 0 0 0:=X.ins hr
 obtain ⟨hy,h,hk,hc⟩:=X
 rw [can11 (by show (rns.getD k r0).ended = _;rw [hr]) hi] at hc
 have hg0 : g = 0:=of_decide_eq_true hc
 have hst:=step11 (t:=pst rns h0 h1 h2 z0 z1 g cells evs) hk hr hi
 refine ⟨hst.1,rns.set k ⟨3,1,R,false⟩,h0,h1,h2,z0,z1,g,cells,hst.2.trans rfl,?_,?_⟩
 ·refine h.move hk hr (Loc.mkK y2.1 hj ⟨1,R,rfl,by simp [hR],by have hB:=hA;simp [KA,hR] at hB ⊢ <;> omega⟩) (fun j hj hne hL => hL) (by omega) (by omega) (by omega) (by omega) ?_ ?_ ?_ h.cl ?_ <;> first | omega | (intros;have hB:=hA;simp [hR,KA] at hB ⊢ <;> omega)
 ·exact .inl ⟨_,rfl,rfl,rfl,rfl,rfl,by rw [hr];constructor <;> intros <;> simp,evq hi (by decide)⟩
theorem goK1 (X : Cx n a q b rns h0 h1 h2 z0 z1 g cells evs k) (hj : a + 2 ≤ (k : Int)) (hr : rns.getD k r0 = ⟨3,1,R,false⟩) (hR : R.length = 8) (hA : KA z1 g 1) : Nx2 n a q b rns h0 h1 h2 z0 z1 g cells evs k:=by
 obtain ⟨y1,y2,y3,hlb,hgb,hz0r,hz1r,hs0,hs1⟩:=X.all
 have hi : _ = Ins.mk 7 1 0 0:=X.ins hr
 obtain ⟨hy,h,hk,hc⟩:=X
 have hz : z1 = 0:=by unfold KA at hA;omega
 subst hz
 have hst:=step7 (t:=pst rns h0 h1 h2 z0 0 g cells evs) hk hr hi rfl
 refine ⟨hst.1,rns.set k ⟨3,2,R,false⟩,h0,h1,h2,z0,1,g,cells,hst.2.trans rfl,?_,?_⟩
 ·refine h.move hk hr (Loc.mkK y2.1 hj ⟨2,R,rfl,by simp [hR],by have hB:=hA;simp [KA,hR] at hB ⊢ <;> omega⟩) (fun j hj hne hL => hL.mono (fun _ _ _ => by first | omega | simp_all) (fun _ _ _ _ => by first | omega | simp_all) (fun _ => by first | rfl | omega) (fun _ => by first | exact ⟨rfl,id⟩ | omega)) (by omega) (by omega) (by omega) (by omega) ?_ ?_ ?_ h.cl ?_ <;> first | omega | (intros;have hB:=hA;simp [hR,KA] at hB ⊢ <;> omega)
 ·exact .inl ⟨_,rfl,rfl,rfl,rfl,rfl,by rw [hr];constructor <;> intros <;> simp,evq hi (by decide)⟩
theorem goK2 (X : Cx n a q b rns h0 h1 h2 z0 z1 g cells evs k) (hj : a + 2 ≤ (k : Int)) (hr : rns.getD k r0 = ⟨3,2,R,false⟩) (hR : R.length = 8) (hA : KA z1 g 2) : Nx2 n a q b rns h0 h1 h2 z0 z1 g cells evs k:=by
 obtain ⟨y1,y2,y3,hlb,hgb,hz0r,hz1r,hs0,hs1⟩:=X.all
 have hi : _ = Ins.mk 16 0 0 0:=X.ins hr
 obtain ⟨hy,h,hk,hc⟩:=X
 have hst:=step16 (t:=pst rns h0 h1 h2 z0 z1 g cells evs) hk hr hi
 refine ⟨hst.1,rns.set k ⟨3,3,R,true⟩,h0,h1,h2,z0,z1,g,cells,hst.2.trans rfl,?_,?_⟩
 ·refine h.move hk hr (Loc.mkK y2.1 hj ⟨3,R,rfl,by simp [hR],by have hB:=hA;simp [KA,hR] at hB ⊢ <;> omega⟩) (fun j hj hne hL => hL) (by omega) (by omega) (by omega) (by omega) ?_ ?_ ?_ h.cl ?_ <;> first | omega | (intros;have hB:=hA;simp [hR,KA] at hB ⊢ <;> omega)
 ·exact .inl ⟨_,rfl,rfl,rfl,rfl,rfl,by rw [hr];constructor <;> intros <;> simp,evq hi (by decide)⟩
theorem goK (X : Cx n a q b rns h0 h1 h2 z0 z1 g cells evs k) (hj : a + 2 ≤ (k : Int)) : Nx2 n a q b rns h0 h1 h2 z0 z1 g cells evs k:=by
 obtain ⟨hy,h,hk,hc⟩:=X
 have y2:=hy.a0
 have he:=can_going hc
 obtain ⟨p,R,hr,hR,hA⟩:=(h.loc k hk).k hj
 have hre : (rn (pst rns h0 h1 h2 z0 z1 g cells evs) k).ended = decide (p = 3):=by unfold rn pst;dsimp only;rw [hr]
 rw [hre] at he
 have hpe : p ≠ 3:=of_decide_eq_false he
 clear hre he
 have hp : p = 0 ∨ p = 1 ∨ p = 2:=by unfold KA at hA;omega
 rcases hp with rfl | rfl | rfl
 ·exact goK0 ⟨hy,h,hk,hc⟩ hj hr hR hA
 ·exact goK1 ⟨hy,h,hk,hc⟩ hj hr hR hA
 ·exact goK2 ⟨hy,h,hk,hc⟩ hj hr hR hA
theorem go2 {n a q b : Int} (hy : Hy n a q b) {rns : List Rn} {h0 h1 h2 : List Int} {z0 z1 g : Int} {cells : List Int} {evs : List Ev} (h : IV n a b rns h0 h1 h2 z0 z1 g cells evs.length) {k : Nat} (hk : k < rns.length) (hc : can (psys n a q b) (pst rns h0 h1 h2 z0 z1 g cells evs) k = true) : Nx2 n a q b rns h0 h1 h2 z0 z1 g cells evs k:=by
 by_cases h0 : k = 0
 ·exact goC ⟨hy,h,hk,hc⟩ h0
 by_cases h1 : (k : Int) ≤ a
 ·exact goW ⟨hy,h,hk,hc⟩ (by omega) h1
 by_cases h2 : (k : Int) = a + 1
 ·exact goF ⟨hy,h,hk,hc⟩ h2
 ·exact goK ⟨hy,h,hk,hc⟩ (by omega)
theorem go {n a q b : Int} (hy : Hy n a q b) {rns : List Rn} {h0 h1 h2 : List Int} {z0 z1 g : Int} {cells : List Int} {evs : List Ev} (h : IV n a b rns h0 h1 h2 z0 z1 g cells evs.length) {k : Nat} (hk : k < rns.length) (hc : can (psys n a q b) (pst rns h0 h1 h2 z0 z1 g cells evs) k = true) : Nxt n a q b (pst rns h0 h1 h2 z0 z1 g cells evs) k:=by
 obtain ⟨x1,rns',h0',h1',h2',z0',z1',g',cells',x2,x3,_⟩:=go2 hy h hk hc
 exact ⟨x1,rns',h0',h1',h2',z0',z1',g',cells',x2,x3⟩
end
end PQ
end Mc
end Go.Proofs.Ytfbnakmmmphedaa
namespace Go.Proofs.Ytfbnakmmmphedaa
open List renaming getD_eq_getElem?_getD → gDQ
open Go
namespace Mc
namespace PQ
section
variable {n a q b : Int} {rns : List Rn} {h0 h1 h2 : List Int} {z0 z1 g : Int} {cells : List Int} {evs : List Ev} {k : Nat} {R : List Int} {P x : Int} {e : Bool}
theorem inO (hr : rns.getD k r0 = ⟨P,x,R,e⟩) : ins (psys n a q b) (pst rns h0 h1 h2 z0 z1 g cells evs) k = (pg (psys n a q b) P).getD x.toNat i0:=by unfold ins rn pst;dsimp only;rw [hr]
theorem enO (hr : rns.getD k r0 = ⟨P,x,R,false⟩) : (rn (pst rns h0 h1 h2 z0 z1 g cells evs) k).ended = false:=by unfold rn pst;dsimp only;rw [hr]
theorem noF (hr : rns.getD k r0 = ⟨P,x,R,false⟩) (hc : can (psys n a q b) (pst rns h0 h1 h2 z0 z1 g cells evs) k = false) (hf : ((pg (psys n a q b) P).getD x.toNat i0).op ≠ 5 ∧ ((pg (psys n a q b) P).getD x.toNat i0).op ≠ 6 ∧ ((pg (psys n a q b) P).getD x.toNat i0).op ≠ 8 ∧ ((pg (psys n a q b) P).getD x.toNat i0).op ≠ 11) : False:=by
 rw [can_free (enO hr) (by rw [inO hr];exact hf)] at hc
 cases hc
end
theorem stC {n a q b : Int} (hy : Hy n a q b) {rns : List Rn} {h0 h1 h2 : List Int} {z0 z1 g : Int} {cells : List Int} {evs : List Ev} (h : IV n a b rns h0 h1 h2 z0 z1 g cells evs.length) {k : Nat} (hk : k < rns.length) (hc : can (psys n a q b) (pst rns h0 h1 h2 z0 z1 g cells evs) k = false) {p : Int} {R : List Int} (hr : rns.getD k r0 = ⟨0,p,R,decide (p = 15)⟩) (hR : R.length = 8) (hA : 0 ≤ p ∧ p ≤ 15) : p = 15 ∨ (p = 11 ∧ h1.length = 0 ∧ z1 = 0):=by
 have hp : p = 0 ∨ p = 1 ∨ p = 2 ∨ p = 3 ∨ p = 4 ∨ p = 5 ∨ p = 6 ∨ p = 7 ∨ p = 8 ∨ p = 9 ∨ p = 10 ∨ p = 11 ∨ p = 12 ∨ p = 13 ∨ p = 14 ∨ p = 15:=by omega
 rcases hp with rfl | rfl | rfl | rfl | rfl | rfl | rfl | rfl | rfl | rfl | rfl | rfl | rfl | rfl | rfl | rfl
 ·exact (noF hr hc (of_decide_eq_true rfl)).elim
 ·exact (noF hr hc (of_decide_eq_true rfl)).elim
 ·exact (noF hr hc (of_decide_eq_true rfl)).elim
 ·exact (noF hr hc (of_decide_eq_true rfl)).elim
 ·exact (noF hr hc (of_decide_eq_true rfl)).elim
 ·exact (noF hr hc (of_decide_eq_true rfl)).elim
 ·exact (noF hr hc (of_decide_eq_true rfl)).elim
 ·exact (noF hr hc (of_decide_eq_true rfl)).elim
 ·exact (noF hr hc (of_decide_eq_true rfl)).elim
 ·exact (noF hr hc (of_decide_eq_true rfl)).elim
 ·exact (noF hr hc (of_decide_eq_true rfl)).elim
 ·have hi : _ = Ins.mk 6 1 3 14:=inO (n:=n) (a:=a) (q:=q) (b:=b) (h0:=h0) (h1:=h1) (h2:=h2) (z0:=z0) (z1:=z1) (g:=g) (cells:=cells) (evs:=evs) hr
  rw [can6 (enO hr) hi] at hc;simp [pst,psys] at hc
  have hX:=h.z0r
  have hY:=h.z1r
  first | omega | (simp_all;done) | (simp_all;omega)
 ·exact (noF hr hc (of_decide_eq_true rfl)).elim
 ·exact (noF hr hc (of_decide_eq_true rfl)).elim
 ·exact (noF hr hc (of_decide_eq_true rfl)).elim
 ·exact Or.inl rfl
theorem stW {n a q b : Int} (hy : Hy n a q b) {rns : List Rn} {h0 h1 h2 : List Int} {z0 z1 g : Int} {cells : List Int} {evs : List Ev} (h : IV n a b rns h0 h1 h2 z0 z1 g cells evs.length) {k : Nat} (hk : k < rns.length) (hc : can (psys n a q b) (pst rns h0 h1 h2 z0 z1 g cells evs) k = false) {p : Int} {R : List Int} (hr : rns.getD k r0 = ⟨1,p,R,decide (p = 8)⟩) (hR : R.length = 8) (hA : 0 ≤ p ∧ p ≤ 8) : p = 8 ∨ (p = 0 ∧ h0.length = 0 ∧ z0 = 0) ∨ (p = 3 ∧ b ≤ h2.length) ∨ (p = 4 ∧ q ≤ h1.length):=by
 have hp : p = 0 ∨ p = 1 ∨ p = 2 ∨ p = 3 ∨ p = 4 ∨ p = 5 ∨ p = 6 ∨ p = 7 ∨ p = 8:=by omega
 rcases hp with rfl | rfl | rfl | rfl | rfl | rfl | rfl | rfl | rfl
 ·have hi : _ = Ins.mk 6 0 3 6:=inO (n:=n) (a:=a) (q:=q) (b:=b) (h0:=h0) (h1:=h1) (h2:=h2) (z0:=z0) (z1:=z1) (g:=g) (cells:=cells) (evs:=evs) hr
  rw [can6 (enO hr) hi] at hc;simp [pst,psys] at hc
  have hX:=h.z0r
  have hY:=h.z1r
  first | omega | (simp_all;done) | (simp_all;omega)
 ·exact (noF hr hc (of_decide_eq_true rfl)).elim
 ·exact (noF hr hc (of_decide_eq_true rfl)).elim
 ·have hi : _ = Ins.mk 5 2 3 0:=inO (n:=n) (a:=a) (q:=q) (b:=b) (h0:=h0) (h1:=h1) (h2:=h2) (z0:=z0) (z1:=z1) (g:=g) (cells:=cells) (evs:=evs) hr
  rw [can5 (enO hr) hi] at hc;simp [pst,psys] at hc
  have hX:=h.z0r
  have hY:=h.z1r
  first | omega | (simp_all;done) | (simp_all;omega)
 ·have hi : _ = Ins.mk 5 1 4 0:=inO (n:=n) (a:=a) (q:=q) (b:=b) (h0:=h0) (h1:=h1) (h2:=h2) (z0:=z0) (z1:=z1) (g:=g) (cells:=cells) (evs:=evs) hr
  rw [can5 (enO hr) hi] at hc;simp [pst,psys] at hc
  have hX:=h.z0r
  have hY:=h.z1r
  first | omega | (simp_all;done) | (simp_all;omega)
 ·exact (noF hr hc (of_decide_eq_true rfl)).elim
 ·exact (noF hr hc (of_decide_eq_true rfl)).elim
 ·exact (noF hr hc (of_decide_eq_true rfl)).elim
 ·exact Or.inl rfl
theorem stF {n a q b : Int} (hy : Hy n a q b) {rns : List Rn} {h0 h1 h2 : List Int} {z0 z1 g : Int} {cells : List Int} {evs : List Ev} (h : IV n a b rns h0 h1 h2 z0 z1 g cells evs.length) {k : Nat} (hk : k < rns.length) (hc : can (psys n a q b) (pst rns h0 h1 h2 z0 z1 g cells evs) k = false) {p : Int} {R : List Int} (hr : rns.getD k r0 = ⟨2,p,R,decide (p = 19)⟩) (hR : R.length = 8) (hA : 0 ≤ p ∧ p ≤ 19) : p = 19 ∨ (p = 5 ∧ b ≤ h2.length) ∨ (p = 12 ∧ h2.length = 0) ∨ (p = 14 ∧ q ≤ h0.length):=by
 have hp : p = 0 ∨ p = 1 ∨ p = 2 ∨ p = 3 ∨ p = 4 ∨ p = 5 ∨ p = 6 ∨ p = 7 ∨ p = 8 ∨ p = 9 ∨ p = 10 ∨ p = 11 ∨ p = 12 ∨ p = 13 ∨ p = 14 ∨ p = 15 ∨ p = 16 ∨ p = 17 ∨ p = 18 ∨ p = 19:=by omega
 rcases hp with rfl | rfl | rfl | rfl | rfl | rfl | rfl | rfl | rfl | rfl | rfl | rfl | rfl | rfl | rfl | rfl | rfl | rfl | rfl | rfl
 ·exact (noF hr hc (of_decide_eq_true rfl)).elim
 ·exact (noF hr hc (of_decide_eq_true rfl)).elim
 ·exact (noF hr hc (of_decide_eq_true rfl)).elim
 ·exact (noF hr hc (of_decide_eq_true rfl)).elim
 ·exact (noF hr hc (of_decide_eq_true rfl)).elim
 ·have hi : _ = Ins.mk 5 2 0 0:=inO (n:=n) (a:=a) (q:=q) (b:=b) (h0:=h0) (h1:=h1) (h2:=h2) (z0:=z0) (z1:=z1) (g:=g) (cells:=cells) (evs:=evs) hr
  rw [can5 (enO hr) hi] at hc;simp [pst,psys] at hc
  have hX:=h.z0r
  have hY:=h.z1r
  first | omega | (simp_all;done) | (simp_all;omega)
 ·exact (noF hr hc (of_decide_eq_true rfl)).elim
 ·exact (noF hr hc (of_decide_eq_true rfl)).elim
 ·exact (noF hr hc (of_decide_eq_true rfl)).elim
 ·exact (noF hr hc (of_decide_eq_true rfl)).elim
 ·exact (noF hr hc (of_decide_eq_true rfl)).elim
 ·exact (noF hr hc (of_decide_eq_true rfl)).elim
 ·have hi : _ = Ins.mk 6 2 3 17:=inO (n:=n) (a:=a) (q:=q) (b:=b) (h0:=h0) (h1:=h1) (h2:=h2) (z0:=z0) (z1:=z1) (g:=g) (cells:=cells) (evs:=evs) hr
  rw [can6 (enO hr) hi] at hc;simp [pst,psys] at hc
  have hX:=h.z0r
  have hY:=h.z1r
  first | omega | (simp_all;done) | (simp_all;omega)
 ·exact (noF hr hc (of_decide_eq_true rfl)).elim
 ·have hi : _ = Ins.mk 5 0 3 0:=inO (n:=n) (a:=a) (q:=q) (b:=b) (h0:=h0) (h1:=h1) (h2:=h2) (z0:=z0) (z1:=z1) (g:=g) (cells:=cells) (evs:=evs) hr
  rw [can5 (enO hr) hi] at hc;simp [pst,psys] at hc
  have hX:=h.z0r
  have hY:=h.z1r
  first | omega | (simp_all;done) | (simp_all;omega)
 ·exact (noF hr hc (of_decide_eq_true rfl)).elim
 ·exact (noF hr hc (of_decide_eq_true rfl)).elim
 ·exact (noF hr hc (of_decide_eq_true rfl)).elim
 ·exact (noF hr hc (of_decide_eq_true rfl)).elim
 ·exact Or.inl rfl
theorem stK {n a q b : Int} (hy : Hy n a q b) {rns : List Rn} {h0 h1 h2 : List Int} {z0 z1 g : Int} {cells : List Int} {evs : List Ev} (h : IV n a b rns h0 h1 h2 z0 z1 g cells evs.length) {k : Nat} (hk : k < rns.length) (hc : can (psys n a q b) (pst rns h0 h1 h2 z0 z1 g cells evs) k = false) {p : Int} {R : List Int} (hr : rns.getD k r0 = ⟨3,p,R,decide (p = 3)⟩) (hR : R.length = 8) (hA : 0 ≤ p ∧ p ≤ 3) : p = 3 ∨ (p = 0 ∧ g ≠ 0):=by
 have hp : p = 0 ∨ p = 1 ∨ p = 2 ∨ p = 3:=by omega
 rcases hp with rfl | rfl | rfl | rfl
 ·have hi : _ = Ins.mk 11 0 0 0:=inO (n:=n) (a:=a) (q:=q) (b:=b) (h0:=h0) (h1:=h1) (h2:=h2) (z0:=z0) (z1:=z1) (g:=g) (cells:=cells) (evs:=evs) hr
  rw [can11 (enO hr) hi] at hc;simp [pst,psys] at hc
  have hX:=h.z0r
  have hY:=h.z1r
  first | omega | (simp_all;done) | (simp_all;omega)
 ·exact (noF hr hc (of_decide_eq_true rfl)).elim
 ·exact (noF hr hc (of_decide_eq_true rfl)).elim
 ·exact Or.inl rfl
theorem over_of {t : St} (h : ∀ k,k < t.rns.length → (t.rns.getD k r0).ended = true) : over t = true:=by
 unfold over
 rw [List.all_eq_true]
 intro x hx
 obtain ⟨k,hk,rfl⟩:=List.getElem_of_mem hx
 have:=h k hk
 rw [gDQ,List.getElem?_eq_getElem hk] at this
 exact this
theorem of_over {t : St} (h : over t = true) {k : Nat} (hk : k < t.rns.length) : (t.rns.getD k r0).ended = true:=by
 unfold over at h
 rw [List.all_eq_true] at h
 rw [gDQ,List.getElem?_eq_getElem hk]
 exact h _ (List.getElem_mem hk)
theorem alive {n a q b : Int} (hy : Hy n a q b) {rns : List Rn} {h0 h1 h2 : List Int} {z0 z1 g : Int} {cells : List Int} {evs : List Ev} (h : IV n a b rns h0 h1 h2 z0 z1 g cells evs.length) (hc : ∀ k,k < rns.length → can (psys n a q b) (pst rns h0 h1 h2 z0 z1 g cells evs) k = false) : over (pst rns h0 h1 h2 z0 z1 g cells evs) = true:=by
 have y1:=hy.n0
 have y2:=hy.a0
 have y3:=hy.b0
 have y4:=hy.q0
 have hlb:=h.lenb y2.1
 obtain ⟨p,R,hr,hR,hA⟩:=(h.loc 0 hlb.1).c rfl
 have hst:=stC hy h hlb.1 (hc 0 hlb.1) hr hR (by unfold CA at hA;omega)
 have hlen : (rns.length : Int) = a + 3:=by
  have:=h.len
  rw [hr] at this;rw [this];unfold lenC;rcases hst with rfl | ⟨rfl,_⟩ <;> simp
 have hW : ∀ k : Nat,1 ≤ k → (k : Int) ≤ a → ∃ p R,rns.getD k r0 = ⟨1,p,R,decide (p = 8)⟩ ∧ WA z0 h0.length p ∧ (p = 8 ∨ (p = 0 ∧ h0.length = 0 ∧ z0 = 0) ∨ (p = 3 ∧ b ≤ h2.length) ∨ (p = 4 ∧ q ≤ h1.length)):=fun k h1 h2 => by
  have hk : k < rns.length:=by omega
  obtain ⟨p,R,hr,hR,hA⟩:=(h.loc k hk).w h1 h2
  exact ⟨p,R,hr,hA,stW hy h hk (hc k hk) hr hR (by unfold WA at hA;omega)⟩
 have hfk : (a + 1).toNat < rns.length:=by omega
 obtain ⟨pf,Rf,hrf,hRf,hAf⟩:=(h.loc (a + 1).toNat hfk).f (by omega)
 have hsf:=stF hy h hfk (hc _ hfk) hrf hRf (by unfold FA at hAf;omega)
 have hkk : (a + 2).toNat < rns.length:=by omega
 obtain ⟨pk,Rk,hrk,hRk,hAk⟩:=(h.loc (a + 2).toNat hkk).k (by omega)
 have hsk:=stK hy h hkk (hc _ hkk) hrk hRk (by unfold KA at hAk;omega)
 have hgW : ∀ k : Nat,1 ≤ k → (k : Int) ≤ a → ∀ p R,rns.getD k r0 = ⟨1,p,R,decide (p = 8)⟩ → 0 ≤ p → p ≤ 6 → 1 ≤ g:=fun k h1 h2 p R he h3 h4 => by
  refine h.g1 (k:=k) (by omega) ?_
  rw [he];have : p ≠ 8:=by omega
  simp [gc,this,h4]
 -- a worker that waits for room among the free ones: there is room
 have hno3 : ∀ k : Nat,1 ≤ k → (k : Int) ≤ a → ∀ R,rns.getD k r0 = ⟨1,3,R,decide ((3 : Int) = 8)⟩ → b ≤ h2.length → False:=fun k h1 h2' R he hb => by
  have h6:=sm_ge2 (tok b) rns (a + 1).toNat k hfk (by omega) (by omega) (fun j hj hj1 hj2 => by
   by_cases e0 : j = 0
   ·subst e0;rw [hr];simp [tok]
   by_cases e1 : (j : Int) ≤ a
   ·obtain ⟨p,R,e,_,_⟩:=hW j (by omega) e1
    rw [e];simp only [tok]
    simp
    (repeat' split) <;> omega
   ·have e2 : j = (a + 2).toNat:=by omega
    subst e2;rw [hrk];simp [tok]) (by simp [tok,r0])
  have h7:=h.tk
  rw [he,hrf] at h6;have h8 : -b ≤ tok b ⟨2,pf,Rf,decide (pf = 19)⟩:=by
   unfold FA at hAf;simp only [tok,tF]
   simp [-gDQ]
   (repeat' split) <;> omega
  have h9 : tok b ⟨1,3,R,decide ((3 : Int) = 8)⟩ = 1:=by simp [tok]
  omega
 rcases hst with rfl | ⟨rfl,hx1,hz1⟩
 ·-- the combiner has ended
  have hz : z1 = 1 ∧ (h1.length : Int) = 0:=by unfold CA at hA;omega
  have hpk : pk = 3:=by unfold KA at hAk;omega
  have hg : g = 0:=by unfold KA at hAk;omega
  have hWe : ∀ k : Nat,1 ≤ k → (k : Int) ≤ a → ∃ R,rns.getD k r0 = ⟨1,8,R,true⟩ ∧ z0 = 1:=fun k h1 h2 => by
   obtain ⟨p,R,e,hw,hs⟩:=hW k h1 h2
   have:=hgW k h1 h2 p R e
   have hp8 : p = 8:=by unfold WA at hw;omega
   subst hp8;exact ⟨R,e,by unfold WA at hw;omega⟩
  obtain ⟨_,_,hz0⟩:=hWe 1 (Nat.le_refl _) (by omega)
  have hpf : pf = 19:=by unfold FA at hAf;omega
  refine over_of fun k hk => ?_
  have hk' : k < rns.length:=hk
  show (rns.getD k r0).ended = true
  by_cases e0 : k = 0
  ·subst e0;rw [hr];rfl
  by_cases e1 : (k : Int) ≤ a
  ·obtain ⟨R,e,_⟩:=hWe k (by omega) e1
   rw [e]
  by_cases e2 : (k : Int) = a + 1
  ·have e3 : k = (a + 1).toNat:=by omega
   rw [e3,hrf,hpf];rfl
  ·have e3 : k = (a + 2).toNat:=by omega
   rw [e3,hrk,hpk];rfl
 ·exfalso
  have hgn : g ≠ 0:=by unfold KA at hAk;omega
  have hWs : ∀ k : Nat,1 ≤ k → (k : Int) ≤ a → ∃ p R,rns.getD k r0 = ⟨1,p,R,decide (p = 8)⟩ ∧ WA z0 h0.length p ∧ (p = 8 ∨ (p = 0 ∧ h0.length = 0 ∧ z0 = 0)):=fun k h1 h2 => by
   obtain ⟨p,R,e,hw,hs⟩:=hW k h1 h2
   refine ⟨p,R,e,hw,?_⟩
   rcases hs with hs | hs | ⟨rfl,hs⟩ | hs
   ·exact .inl hs
   ·exact .inr hs
   ·exact (hno3 k h1 h2 R e hs).elim
   ·omega
  rcases h.z0r with hz | hz
  ·-- all workers wait for jobs
   have hx0 : h0.length = 0:=by
    obtain ⟨p,R,e,hw,hs⟩:=hWs 1 (Nat.le_refl _) (by omega)
    unfold WA at hw;omega
   have h6:=sm_one (tok b) rns (a + 1).toNat hfk (fun j hj hj1 => by
    by_cases e0 : j = 0
    ·subst e0;rw [hr];simp [tok]
    by_cases e1 : (j : Int) ≤ a
    ·obtain ⟨p,R,e,hw,hs⟩:=hWs j (by omega) e1
     have : p = 0:=by unfold WA at hw;omega
     subst this;rw [e];simp [tok]
    ·have e2 : j = (a + 2).toNat:=by omega
     subst e2;rw [hrk];simp [tok]) (by simp [tok,r0])
   have h7:=h.tk
   rw [hrf] at h6;rcases hsf with rfl | ⟨rfl,hx⟩ | ⟨rfl,hx⟩ | ⟨rfl,hx⟩
   ·unfold FA at hAf;omega
   ·unfold FA at hAf
    simp [-gDQ,tok,tF] at h6
    omega
   ·simp [-gDQ,tok,tF] at h6
    omega
   ·omega
  ·have h6:=sm_zero gc rns (fun j hj => by
    by_cases e0 : j = 0
    ·subst e0;rw [hr];simp [gc]
    by_cases e1 : (j : Int) ≤ a
    ·obtain ⟨p,R,e,hw,hs⟩:=hWs j (by omega) e1
     have : p = 8:=by omega
     subst this;rw [e];simp [gc]
    by_cases e2 : (j : Int) = a + 1
    ·have e3 : j = (a + 1).toNat:=by omega
     rw [e3,hrf];simp [gc]
    ·have e3 : j = (a + 2).toNat:=by omega
     rw [e3,hrk];simp [gc])
   have:=h.gp
   omega
theorem w_nn {n a b z0 z1 x0 x1 g : Int} {j : Nat} {r : Rn} (hn : 0 ≤ n) (ha : 1 ≤ a) (hb : 1 ≤ b) (h : Loc n a b z0 z1 x0 x1 g j r) : 0 ≤ w n a b r:=by
 by_cases e0 : j = 0
 ·obtain ⟨p,R,rfl,_,hA⟩:=h.c e0
  unfold CA at hA;have hp : p = 0 ∨ p = 1 ∨ p = 2 ∨ p = 3 ∨ p = 4 ∨ p = 5 ∨ p = 6 ∨ p = 7 ∨ p = 8 ∨ p = 9 ∨ p = 10 ∨ p = 11 ∨ p = 12 ∨ p = 13 ∨ p = 14 ∨ p = 15:=by omega
  rcases hp with rfl | rfl | rfl | rfl | rfl | rfl | rfl | rfl | rfl | rfl | rfl | rfl | rfl | rfl | rfl | rfl <;> simp [-gDQ,w,wC] <;> omega
 by_cases e1 : (j : Int) ≤ a
 ·obtain ⟨p,R,rfl,_,hA⟩:=h.w (by omega) e1
  unfold WA at hA;have hp : p = 0 ∨ p = 1 ∨ p = 2 ∨ p = 3 ∨ p = 4 ∨ p = 5 ∨ p = 6 ∨ p = 7 ∨ p = 8:=by omega
  rcases hp with rfl | rfl | rfl | rfl | rfl | rfl | rfl | rfl | rfl <;> simp [-gDQ,w,wW] <;> omega
 by_cases e2 : (j : Int) = a + 1
 ·obtain ⟨p,R,rfl,_,hA⟩:=h.f e2
  unfold FA at hA;have hp : p = 0 ∨ p = 1 ∨ p = 2 ∨ p = 3 ∨ p = 4 ∨ p = 5 ∨ p = 6 ∨ p = 7 ∨ p = 8 ∨ p = 9 ∨ p = 10 ∨ p = 11 ∨ p = 12 ∨ p = 13 ∨ p = 14 ∨ p = 15 ∨ p = 16 ∨ p = 17 ∨ p = 18 ∨ p = 19:=by omega
  rcases hp with rfl | rfl | rfl | rfl | rfl | rfl | rfl | rfl | rfl | rfl | rfl | rfl | rfl | rfl | rfl | rfl | rfl | rfl | rfl | rfl <;> simp [-gDQ,w,wF] <;> omega
 ·obtain ⟨p,R,rfl,_,hA⟩:=h.k (by omega)
  unfold KA at hA;have hp : p = 0 ∨ p = 1 ∨ p = 2 ∨ p = 3:=by omega
  rcases hp with rfl | rfl | rfl | rfl <;> simp [-gDQ,w,wK] <;> omega
theorem IV.short {n a q b : Int} (hy : Hy n a q b) {rns : List Rn} {h0 h1 h2 : List Int} {z0 z1 g : Int} {cells : List Int} {evs : List Ev} (h : IV n a b rns h0 h1 h2 z0 z1 g cells evs.length) : (evs.length : Int) ≤ 23 + 8 * a + 4 * b + 15 * n:=by
 have y1:=hy.n0
 have y2:=hy.a0
 have y3:=hy.b0
 have:=sm_nn (w n a b) rns (fun j hj => w_nn y1.1 y2.1 y3.1 (h.loc j hj))
 have:=h.ms
 omega
theorem IV.done {n a q b : Int} (hy : Hy n a q b) {rns : List Rn} {h0 h1 h2 : List Int} {z0 z1 g : Int} {cells : List Int} {evs : List Ev} (h : IV n a b rns h0 h1 h2 z0 z1 g cells evs.length) (ho : over (pst rns h0 h1 h2 z0 z1 g cells evs) = true) : (evs.length : Int) = 23 + 8 * a + 4 * b + 15 * n ∧ (rns.length : Int) = a + 3:=by
 have y1:=hy.n0
 have y2:=hy.a0
 have y3:=hy.b0
 have hlb:=h.lenb y2.1
 have hE : ∀ k,k < rns.length → (rns.getD k r0).ended = true:=fun k hk => of_over ho hk
 obtain ⟨p,R,hr,hR,hA⟩:=(h.loc 0 hlb.1).c rfl
 have e0:=hE 0 hlb.1
 rw [hr] at e0
 obtain rfl : p = 15:=of_decide_eq_true e0
 have hlen : (rns.length : Int) = a + 3:=by
  have:=h.len
  rw [hr] at this;rw [this];simp [lenC]
 have hx1 : (h1.length : Int) = 0:=by unfold CA at hA;omega
 obtain ⟨p1,R1,hr1,hR1,hA1⟩:=(h.loc 1 (by omega)).w (Nat.le_refl _) (by omega)
 have e1:=hE 1 (by omega)
 rw [hr1] at e1
 obtain rfl : p1 = 8:=of_decide_eq_true e1
 have hx0 : (h0.length : Int) = 0:=by unfold WA at hA1;omega
 have h5:=sm_zero (w n a b) rns (fun k hk => by unfold w;rw [if_pos (hE k hk)])
 have:=h.ms
 exact ⟨by omega,hlen⟩
theorem iv_first {n a q b : Int} (hy : Hy n a q b) : IV n a b [⟨0,0,List.replicate 8 0,false⟩] [] [] [] 0 0 0 (List.replicate b.toNat 0) ([] : List Ev).length:=by
 have y1:=hy.n0
 have y2:=hy.a0
 have y3:=hy.b0
 refine ⟨by simp [lenC],fun j hj => ?_,fun _ => rfl,fun _ => rfl,.inl rfl,.inl rfl,by simp [sm,tok],by simp [sm,gc],?_,by simp;omega⟩
 ·obtain rfl : j = 0:=by simp at hj;omega
  exact Loc.mkC y2.1 ⟨0,_,rfl,rfl,by unfold CA;omega⟩
 ·simp [sm,w,wC]
  omega
theorem nmP {n a q b : Int} (hy : Hy n a q b) : Nm (psys n a q b):=by
 have y1:=hy.n0
 have y2:=hy.a0
 have y3:=hy.b0
 intro p j
 have hx : ∀ l : List Ins,(∀ i ∈ l,i64 i.b) → ∀ j,i64 (l.getD j i0).b:=fun l hl j => by
  rw [gDQ];rcases hj : l[j]? with _ | i
  ·exact i64_0
  ·exact hl i (List.mem_of_getElem? hj)
 rcases p with _ | _ | _ | _ | p
 ·refine hx (cmP a) (fun i hi => ?_) j
  simp [cmP] at hi
  rcases hi with rfl | rfl | rfl | rfl | rfl | rfl | rfl | rfl | rfl | rfl | rfl | rfl | rfl | rfl | rfl <;> (unfold i64;dsimp only;omega)
 ·refine hx wkP (fun i hi => ?_) j
  simp [wkP] at hi
  rcases hi with rfl | rfl | rfl | rfl | rfl | rfl | rfl | rfl <;> (unfold i64;dsimp only;omega)
 ·refine hx (fdP b n) (fun i hi => ?_) j
  simp [fdP] at hi
  rcases hi with rfl | rfl | rfl | rfl | rfl | rfl | rfl | rfl | rfl | rfl | rfl | rfl | rfl | rfl | rfl | rfl | rfl | rfl | rfl <;> (unfold i64;dsimp only;omega)
 ·refine hx clP (fun i hi => ?_) j
  simp [clP] at hi
  rcases hi with rfl | rfl | rfl <;> (unfold i64;dsimp only;omega)
 ·exact i64_0
theorem okP {n a q b : Int} (hy : Hy n a q b) (hq : q ≤ 1024) : Ok (psys n a q b):=by
 have y1:=hy.n0
 have y2:=hy.a0
 have y3:=hy.b0
 have y4:=hy.q0
 refine ⟨of_decide_eq_true rfl,of_decide_eq_true rfl,of_decide_eq_true rfl,⟨of_decide_eq_true rfl,of_decide_eq_true rfl⟩,⟨of_decide_eq_true rfl,of_decide_eq_true rfl⟩,⟨by show 0 ≤ b;omega,by show b ≤ 64;omega⟩,fun i hi => ?_,fun p hp => ?_,fun p hp j hj => ?_⟩
 ·have hi3 : i < 3:=hi
  have : i = 0 ∨ i = 1 ∨ i = 2:=by omega
  rcases this with rfl | rfl | rfl
  ·exact ⟨y4,hq⟩
  ·exact ⟨y4,hq⟩
  ·exact ⟨y3.1,by show b ≤ 1024;omega⟩
 ·have hp4 : p < 4:=hp
  have : p = 0 ∨ p = 1 ∨ p = 2 ∨ p = 3:=by omega
  rcases this with rfl | rfl | rfl | rfl <;> exact of_decide_eq_true rfl
 ·have hp4 : p < 4:=hp
  have hc : 0 < (psys n a q b).cells:=by show 0 < b;omega
  have : p = 0 ∨ p = 1 ∨ p = 2 ∨ p = 3:=by omega
  rcases this with rfl | rfl | rfl | rfl
  ·have hj' : j < 15:=hj
   have : j = 0 ∨ j = 1 ∨ j = 2 ∨ j = 3 ∨ j = 4 ∨ j = 5 ∨ j = 6 ∨ j = 7 ∨ j = 8 ∨ j = 9 ∨ j = 10 ∨ j = 11 ∨ j = 12 ∨ j = 13 ∨ j = 14:=by omega
   rcases this with rfl | rfl | rfl | rfl | rfl | rfl | rfl | rfl | rfl | rfl | rfl | rfl | rfl | rfl | rfl <;> exact ⟨of_decide_eq_true rfl,of_decide_eq_true rfl,by first | exact .inl rfl | exact .inr ⟨of_decide_eq_true rfl,of_decide_eq_true rfl⟩,by first | exact .inl rfl | exact .inr ⟨of_decide_eq_true rfl,of_decide_eq_true rfl⟩,by first | exact .inl rfl | exact .inr ⟨of_decide_eq_true rfl,of_decide_eq_true rfl⟩,fun _ => hc⟩
  ·have hj' : j < 8:=hj
   have : j = 0 ∨ j = 1 ∨ j = 2 ∨ j = 3 ∨ j = 4 ∨ j = 5 ∨ j = 6 ∨ j = 7:=by omega
   rcases this with rfl | rfl | rfl | rfl | rfl | rfl | rfl | rfl <;> exact ⟨of_decide_eq_true rfl,of_decide_eq_true rfl,by first | exact .inl rfl | exact .inr ⟨of_decide_eq_true rfl,of_decide_eq_true rfl⟩,by first | exact .inl rfl | exact .inr ⟨of_decide_eq_true rfl,of_decide_eq_true rfl⟩,by first | exact .inl rfl | exact .inr ⟨of_decide_eq_true rfl,of_decide_eq_true rfl⟩,fun _ => hc⟩
  ·have hj' : j < 19:=hj
   have : j = 0 ∨ j = 1 ∨ j = 2 ∨ j = 3 ∨ j = 4 ∨ j = 5 ∨ j = 6 ∨ j = 7 ∨ j = 8 ∨ j = 9 ∨ j = 10 ∨ j = 11 ∨ j = 12 ∨ j = 13 ∨ j = 14 ∨ j = 15 ∨ j = 16 ∨ j = 17 ∨ j = 18:=by omega
   rcases this with rfl | rfl | rfl | rfl | rfl | rfl | rfl | rfl | rfl | rfl | rfl | rfl | rfl | rfl | rfl | rfl | rfl | rfl | rfl <;> exact ⟨of_decide_eq_true rfl,of_decide_eq_true rfl,by first | exact .inl rfl | exact .inr ⟨of_decide_eq_true rfl,of_decide_eq_true rfl⟩,by first | exact .inl rfl | exact .inr ⟨of_decide_eq_true rfl,of_decide_eq_true rfl⟩,by first | exact .inl rfl | exact .inr ⟨of_decide_eq_true rfl,of_decide_eq_true rfl⟩,fun _ => hc⟩
  ·have hj' : j < 3:=hj
   have : j = 0 ∨ j = 1 ∨ j = 2:=by omega
   rcases this with rfl | rfl | rfl <;> exact ⟨of_decide_eq_true rfl,of_decide_eq_true rfl,by first | exact .inl rfl | exact .inr ⟨of_decide_eq_true rfl,of_decide_eq_true rfl⟩,by first | exact .inl rfl | exact .inr ⟨of_decide_eq_true rfl,of_decide_eq_true rfl⟩,by first | exact .inl rfl | exact .inr ⟨of_decide_eq_true rfl,of_decide_eq_true rfl⟩,fun _ => hc⟩
end PQ
end Mc
end Go.Proofs.Ytfbnakmmmphedaa
namespace Go.Proofs.Ytfbnakmmmphedaa
open List renaming getD_eq_getElem?_getD → gDQ
open Go
namespace Mc
namespace PQ
def ch (cells : List Int) (v : Int) (l : List Int) : Nat:=l.countP (fun x => decide (cells.getD x.toNat 0 = v))
def nH (evs : List Ev) (v : Int) : Nat:=evs.countP (fun e => decide (e.op = 15 ∧ e.a = 0 ∧ e.value = v))
def nF (evs : List Ev) (v : Int) : Nat:=evs.countP (fun e => decide (e.op = 15 ∧ e.a ≠ 0 ∧ e.value = v))
theorem nH_snoc (l : List Ev) (e : Ev) (v : Int) : (nH (l ++ [e]) v : Int) = nH l v + (if e.op = 15 ∧ e.a = 0 ∧ e.value = v then 1 else 0):=by
 unfold nH
 rw [List.countP_append,List.countP_cons,List.countP_nil]
 by_cases hp : e.op = 15 ∧ e.a = 0 ∧ e.value = v
 ·simp [hp]
 ·simp only [decide_eq_true_eq];rw [if_neg hp,if_neg hp];simp
theorem nF_snoc (l : List Ev) (e : Ev) (v : Int) : (nF (l ++ [e]) v : Int) = nF l v + (if e.op = 15 ∧ e.a ≠ 0 ∧ e.value = v then 1 else 0):=by
 unfold nF
 rw [List.countP_append,List.countP_cons,List.countP_nil]
 by_cases hp : e.op = 15 ∧ e.a ≠ 0 ∧ e.value = v
 ·simp only [decide_eq_true_eq];rw [if_pos hp,if_pos hp];simp
 ·simp only [decide_eq_true_eq];rw [if_neg hp,if_neg hp];simp
theorem cI_cons (x y : Int) (l : List Int) : (((x :: l).count y : Nat) : Int) = l.count y + (if x = y then 1 else 0):=by
 rw [List.count_cons]
 split <;> simp_all
theorem cI_app (x y : Int) (l : List Int) : (((l ++ [x]).count y : Nat) : Int) = l.count y + (if x = y then 1 else 0):=by
 rw [List.count_append,List.count_cons,List.count_nil]
 split <;> simp_all
theorem ch_cons (cells : List Int) (v x : Int) (l : List Int) : (ch cells v (x :: l) : Int) = ch cells v l + (if cells.getD x.toNat 0 = v then 1 else 0):=by
 unfold ch
 rw [List.countP_cons]
 split <;> simp_all
theorem ch_app (cells : List Int) (v x : Int) (l : List Int) : (ch cells v (l ++ [x]) : Int) = ch cells v l + (if cells.getD x.toNat 0 = v then 1 else 0):=by
 unfold ch
 rw [List.countP_append,List.countP_cons,List.countP_nil]
 split <;> simp_all
theorem sm_congr {f g : Rn → Int} : ∀ (l : List Rn),(∀ j,j < l.length → f (l.getD j r0) = g (l.getD j r0)) → sm f l = sm g l
 | [],_ => rfl
 | x :: l,h => by
  have h1:=h 0 (by simp)
  have h2:=sm_congr l (fun j hj => by have:=h (j + 1) (by simpa using hj);simpa using this)
  simp only [List.getD_cons_zero] at h1
  simp only [sm]
  rw [h1,h2]
theorem hb_nn (x : Int) (r : Rn) : 0 ≤ hb x r:=by unfold hb;split <;> omega
structure JV (n b : Int) (rns : List Rn) (h0 h1 h2 cells : List Int) (evs : List Ev) : Prop where
 lb : 0 ≤ sm (lay b) rns ∧ sm (lay b) rns ≤ b
 bo : ∀ x,(h0.count x : Int) + h2.count x + sm (hb x) rns = if 0 ≤ x ∧ x < sm (lay b) rns then 1 else 0
 lo : ∀ v,(ch cells v h0 : Int) + h1.count v + sm (lf cells v) rns + nF evs v = if 0 ≤ v ∧ v < sm (fed n) rns then 1 else 0
 ha : ∀ v,(nH evs v : Int) = h1.count v + sm (ph v) rns + nF evs v
theorem JV.hand {n b : Int} {rns : List Rn} {h0 h1 h2 cells : List Int} {evs : List Ev} (h : JV n b rns h0 h1 h2 cells evs) {k : Nat} (hk : k < rns.length) {x : Int} (hx : hb x (rns.getD k r0) = 1) : 0 ≤ x ∧ x < b ∧ h0.count x = 0 ∧ h2.count x = 0 ∧ ∀ j,j < rns.length → j ≠ k → hb x (rns.getD j r0) = 0:=by
 have b1:=h.bo x
 have b2:=h.lb
 have h3:=sm_ge (hb x) rns k hk (fun j _ _ => hb_nn x _)
 rw [hx] at h3
 have h4 : 0 ≤ x ∧ x < sm (lay b) rns:=by
  by_cases hc : 0 ≤ x ∧ x < sm (lay b) rns
  ·exact hc
  ·rw [if_neg hc] at b1;omega
 rw [if_pos h4] at b1
 refine ⟨h4.1,by omega,by omega,by omega,fun j hj hne => ?_⟩
 have h5:=sm_ge2 (hb x) rns k j hk hj (fun e => hne e.symm) (fun i _ _ _ => hb_nn x _) (by simp [hb,r0])
 have h6:=hb_nn x (rns.getD j r0)
 omega
theorem JV.chan {n b : Int} {rns : List Rn} {h0 h1 h2 cells : List Int} {evs : List Ev} (h : JV n b rns h0 h1 h2 cells evs) {x : Int} (hx : x ∈ h0 ∨ x ∈ h2) : 0 ≤ x ∧ x < b:=by
 have b1:=h.bo x
 have b2:=h.lb
 have h3:=sm_nn (hb x) rns (fun j _ => hb_nn x _)
 have h5 : 1 ≤ h0.count x + h2.count x:=by
  rcases hx with hx | hx
  ·have:=List.one_le_count_iff.2 hx;omega
  ·have:=List.one_le_count_iff.2 hx;omega
 by_cases hc : 0 ≤ x ∧ x < sm (lay b) rns
 ·exact ⟨hc.1,by omega⟩
 ·rw [if_neg hc] at b1;omega
theorem sm_keep {f : Rn → Int} {rns : List Rn} {k : Nat} {r' : Rn} (hk : k < rns.length) (h : f r' = f (rns.getD k r0)) : sm f (rns.set k r') = sm f rns:=by
 have:=sm_set f rns k r' hk
 omega
theorem JV.write {n b : Int} {rns : List Rn} {h0 h1 h2 cells : List Int} {evs : List Ev} (h : JV n b rns h0 h1 h2 cells evs) {k : Nat} (hk : k < rns.length) {R : List Int} (hr : rns.getD k r0 = ⟨2,13,R,false⟩) (v0 v : Int) :
  ch (cells.set (R.getD 3 0).toNat v0) v h0 = ch cells v h0 ∧ sm (lf (cells.set (R.getD 3 0).toNat v0) v) rns = sm (lf cells v) rns:=by
 obtain ⟨a1,a2,a3,a4,a5⟩:=h.hand hk (x:=R.getD 3 0) (by rw [hr];simp [hb])
 constructor
 ·unfold ch
  refine List.countP_congr fun y hy => ?_
  have hy0:=h.chan (.inl hy)
  have hne : ¬ (R.getD 3 0).toNat = y.toNat:=fun e => by
   have e2 : R.getD 3 0 = y:=by omega
   rw [e2] at a3;have:=List.one_le_count_iff.2 hy
   omega
  rw [getD_set,if_neg (fun hh => hne hh.1)]
 ·refine sm_congr rns fun j hj => ?_
  by_cases hjk : j = k
  ·subst hjk
   rw [hr];simp [lf]
  ·have h6:=a5 j hj hjk
   rcases hrj : rns.getD j r0 with ⟨P,X,Q,E⟩
   rw [hrj] at h6;unfold lf;dsimp only
   by_cases hE : E = true
   ·rw [if_pos hE,if_pos hE]
   ·rw [if_neg hE,if_neg hE]
    by_cases hP : (P = 1 ∧ X = 1) ∨ (P = 2 ∧ X = 14)
    ·rw [if_pos hP]
     rw [if_pos hP];have hE' : E = false:=by simpa using hE
     subst hE'
     have h7 : hb (Q.getD 3 0) ⟨P,X,Q,false⟩ = 1:=by
      unfold hb;rw [if_pos ⟨rfl,by dsimp only;omega,rfl⟩]
     have h8:=h.hand hj (x:=Q.getD 3 0) (by rw [hrj];exact h7)
     have h9 : ¬ (R.getD 3 0).toNat = (Q.getD 3 0).toNat:=fun e => by
      have e2 : R.getD 3 0 = Q.getD 3 0:=by omega
      rw [e2] at h6;omega
     have hg : (cells.set (R.getD 3 0).toNat v0).getD (Q.getD 3 0).toNat 0 = cells.getD (Q.getD 3 0).toNat 0:=by rw [getD_set,if_neg (fun hh => h9 hh.1)]
     rw [hg]
    ·rw [if_neg hP,if_neg hP]
theorem JV.step {n b : Int} {rns : List Rn} {h0 h1 h2 cells : List Int} {evs : List Ev} (h : JV n b rns h0 h1 h2 cells evs) (hcl : (cells.length : Int) = b) {k : Nat} (hk : k < rns.length) {rns' : List Rn} {h0' h1' h2' cells' : List Int} {e : Ev} (hn : Nw n b rns h0 h1 h2 cells k rns' h0' h1' h2' cells' e) : JV n b rns' h0' h1' h2' cells' (evs ++ [e]):=by
 have h1:=h.lb
 have h2:=h.bo
 have h3:=h.lo
 have h4:=h.ha
 rcases hn with ⟨r',rfl,rfl,rfl,rfl,rfl,S,Q⟩ | ⟨r',x,rfl,rfl,rfl,rfl,rfl,rfl,S,S0,Q⟩ | ⟨R,x,hr,hR,k1,rfl,rfl,rfl,rfl,rfl,rfl⟩ | ⟨R,hr,hR,k1,rfl,rfl,rfl,rfl,rfl,rfl⟩ | ⟨R,hr,hR,k1,rfl,rfl,rfl,rfl,rfl,rfl⟩ | ⟨R,hr,hR,k1,rfl,rfl,rfl,rfl,rfl,rfl⟩ | ⟨R,hr,hR,k1,rfl,rfl,rfl,rfl,rfl,rfl⟩ | ⟨R,hr,hR,k1,hx,rfl,rfl,rfl,rfl,rfl,rfl⟩ | ⟨R,x,hr,hR,k1,rfl,rfl,rfl,rfl,rfl,rfl⟩ | ⟨R,hr,hR,k1,hx,rfl,rfl,rfl,rfl,rfl,rfl⟩ | ⟨R,hr,hR,k1,rfl,rfl,rfl,rfl,rfl,rfl⟩ | ⟨R,x,hr,hR,k1,rfl,rfl,rfl,rfl,rfl,rfl⟩ | ⟨R,hr,hR,k1,rfl,rfl,rfl,rfl,rfl,rfl⟩
 ·have q : ¬ e.op = 15:=Q.q15
  refine ⟨?_,fun x => ?_,fun v => ?_,fun v => ?_⟩
  ·rw [sm_keep hk S.el];exact h1
  ·rw [sm_keep hk S.el,sm_keep hk (S.eb x)];exact h2 x
  ·rw [sm_keep hk S.ef,sm_keep hk (S.ec _ v),nF_snoc,if_neg (fun hh => q hh.1)];have:=h3 v;omega
  ·rw [sm_keep hk (S.ep v),nF_snoc,nH_snoc,if_neg (fun hh => q hh.1),if_neg (fun hh => q hh.1)];have:=h4 v;omega
 ·have q : ¬ e.op = 15:=Q.q15
  refine ⟨?_,fun y => ?_,fun v => ?_,fun v => ?_⟩
  ·rw [sm_app,sm_keep hk S.el,S0.el];simp [lay,r0];omega
  ·rw [sm_app,sm_app,sm_keep hk S.el,sm_keep hk (S.eb y),S0.el,S0.eb];have:=h2 y;simp [lay,hb,r0];omega
  ·rw [sm_app,sm_app,sm_keep hk S.ef,sm_keep hk (S.ec _ v),S0.ef,S0.ec,nF_snoc,if_neg (fun hh => q hh.1)];have:=h3 v;simp [fed,lf,r0];omega
  ·rw [sm_app,sm_keep hk (S.ep v),S0.ep,nF_snoc,nH_snoc,if_neg (fun hh => q hh.1),if_neg (fun hh => q hh.1)];have:=h4 v;simp [ph,r0];omega
 ·have sb:=fun y => sm_set (hb y) rns k ⟨1,1,R.set 3 x,false⟩ hk
  have sl:=sm_set (lay b) rns k ⟨1,1,R.set 3 x,false⟩ hk
  have sf:=sm_set (fed n) rns k ⟨1,1,R.set 3 x,false⟩ hk
  have sc:=fun v => sm_set (lf cells' v) rns k ⟨1,1,R.set 3 x,false⟩ hk
  have sp:=fun v => sm_set (ph v) rns k ⟨1,1,R.set 3 x,false⟩ hk
  simp [-gDQ,getD_set,hR,hr,hb] at sb
  simp [-gDQ,getD_set,hR,hr,lay] at sl
  simp [-gDQ,getD_set,hR,hr,fed] at sf
  simp [-gDQ,getD_set,hR,hr,lf] at sc
  simp [-gDQ,getD_set,hR,hr,ph] at sp
  refine ⟨by omega,fun y => ?_,fun v => ?_,fun v => ?_⟩
  ·have e1:=h2 y;have e2:=sb y;(try simp only [cI_cons,cI_app,ch_cons,ch_app,nF_snoc,nH_snoc] at e1);(try simp only [cI_cons,cI_app,ch_cons,ch_app,nF_snoc,nH_snoc]);omega
  ·have e1:=h3 v;have e2:=sc v;simp [-gDQ,cI_cons,cI_app,ch_cons,ch_app,nF_snoc,nH_snoc] at e1 ⊢;(try simp [-gDQ] at e2);omega
  ·have e1:=h4 v;have e2:=sp v;simp [-gDQ,cI_cons,cI_app,ch_cons,ch_app,nF_snoc,nH_snoc] at e1 ⊢;(try simp [-gDQ] at e2);omega
 ·obtain ⟨a1,a2,_⟩:=h.hand hk (x:=R.getD 3 0) (by rw [hr];simp [hb])
  have am : R.getD 3 0 % (cells'.length : Int) = R.getD 3 0:=Int.emod_eq_of_lt a1 (by omega)
  rw [am];have sb:=fun y => sm_set (hb y) rns k ⟨1,2,R.set 4 (cells'.getD (R.getD 3 0).toNat 0),false⟩ hk
  have sl:=sm_set (lay b) rns k ⟨1,2,R.set 4 (cells'.getD (R.getD 3 0).toNat 0),false⟩ hk
  have sf:=sm_set (fed n) rns k ⟨1,2,R.set 4 (cells'.getD (R.getD 3 0).toNat 0),false⟩ hk
  have sc:=fun v => sm_set (lf cells' v) rns k ⟨1,2,R.set 4 (cells'.getD (R.getD 3 0).toNat 0),false⟩ hk
  have sp:=fun v => sm_set (ph v) rns k ⟨1,2,R.set 4 (cells'.getD (R.getD 3 0).toNat 0),false⟩ hk
  simp [-gDQ,getD_set,hR,hr,hb] at sb
  simp [-gDQ,getD_set,hR,hr,lay] at sl
  simp [-gDQ,getD_set,hR,hr,fed] at sf
  simp [-gDQ,getD_set,hR,hr,lf] at sc
  simp [-gDQ,getD_set,hR,hr,ph] at sp
  refine ⟨by omega,fun y => ?_,fun v => ?_,fun v => ?_⟩
  ·have e1:=h2 y;have e2:=sb y;(try simp only [cI_cons,cI_app,ch_cons,ch_app,nF_snoc,nH_snoc] at e1);(try simp only [cI_cons,cI_app,ch_cons,ch_app,nF_snoc,nH_snoc]);omega
  ·have e1:=h3 v;have e2:=sc v;simp [-gDQ,cI_cons,cI_app,ch_cons,ch_app,nF_snoc,nH_snoc] at e1 ⊢;(try simp [-gDQ] at e2);omega
  ·have e1:=h4 v;have e2:=sp v;simp [-gDQ,cI_cons,cI_app,ch_cons,ch_app,nF_snoc,nH_snoc] at e1 ⊢;(try simp [-gDQ] at e2);omega
 ·have sb:=fun y => sm_set (hb y) rns k ⟨1,3,R,false⟩ hk
  have sl:=sm_set (lay b) rns k ⟨1,3,R,false⟩ hk
  have sf:=sm_set (fed n) rns k ⟨1,3,R,false⟩ hk
  have sc:=fun v => sm_set (lf cells' v) rns k ⟨1,3,R,false⟩ hk
  have sp:=fun v => sm_set (ph v) rns k ⟨1,3,R,false⟩ hk
  simp [-gDQ,getD_set,hR,hr,hb] at sb
  simp [-gDQ,getD_set,hR,hr,lay] at sl
  simp [-gDQ,getD_set,hR,hr,fed] at sf
  simp [-gDQ,getD_set,hR,hr,lf] at sc
  simp [-gDQ,getD_set,hR,hr,ph] at sp
  refine ⟨by omega,fun y => ?_,fun v => ?_,fun v => ?_⟩
  ·have e1:=h2 y;have e2:=sb y;(try simp only [cI_cons,cI_app,ch_cons,ch_app,nF_snoc,nH_snoc] at e1);(try simp only [cI_cons,cI_app,ch_cons,ch_app,nF_snoc,nH_snoc]);omega
  ·have e1:=h3 v;have e2:=sc v;simp [-gDQ,cI_cons,cI_app,ch_cons,ch_app,nF_snoc,nH_snoc] at e1 ⊢;(try simp [-gDQ] at e2);omega
  ·have e1:=h4 v;have e2:=sp v;simp [-gDQ,cI_cons,cI_app,ch_cons,ch_app,nF_snoc,nH_snoc] at e1 ⊢;(try simp [-gDQ] at e2);omega
 ·have sb:=fun y => sm_set (hb y) rns k ⟨1,4,R,false⟩ hk
  have sl:=sm_set (lay b) rns k ⟨1,4,R,false⟩ hk
  have sf:=sm_set (fed n) rns k ⟨1,4,R,false⟩ hk
  have sc:=fun v => sm_set (lf cells' v) rns k ⟨1,4,R,false⟩ hk
  have sp:=fun v => sm_set (ph v) rns k ⟨1,4,R,false⟩ hk
  simp [-gDQ,getD_set,hR,hr,hb] at sb
  simp [-gDQ,getD_set,hR,hr,lay] at sl
  simp [-gDQ,getD_set,hR,hr,fed] at sf
  simp [-gDQ,getD_set,hR,hr,lf] at sc
  simp [-gDQ,getD_set,hR,hr,ph] at sp
  refine ⟨by omega,fun y => ?_,fun v => ?_,fun v => ?_⟩
  ·have e1:=h2 y;have e2:=sb y;(try simp only [cI_cons,cI_app,ch_cons,ch_app,nF_snoc,nH_snoc] at e1);(try simp only [cI_cons,cI_app,ch_cons,ch_app,nF_snoc,nH_snoc]);omega
  ·have e1:=h3 v;have e2:=sc v;simp [-gDQ,cI_cons,cI_app,ch_cons,ch_app,nF_snoc,nH_snoc] at e1 ⊢;(try simp [-gDQ] at e2);omega
  ·have e1:=h4 v;have e2:=sp v;simp [-gDQ,cI_cons,cI_app,ch_cons,ch_app,nF_snoc,nH_snoc] at e1 ⊢;(try simp [-gDQ] at e2);omega
 ·have sb:=fun y => sm_set (hb y) rns k ⟨1,5,R,false⟩ hk
  have sl:=sm_set (lay b) rns k ⟨1,5,R,false⟩ hk
  have sf:=sm_set (fed n) rns k ⟨1,5,R,false⟩ hk
  have sc:=fun v => sm_set (lf cells' v) rns k ⟨1,5,R,false⟩ hk
  have sp:=fun v => sm_set (ph v) rns k ⟨1,5,R,false⟩ hk
  simp [-gDQ,getD_set,hR,hr,hb] at sb
  simp [-gDQ,getD_set,hR,hr,lay] at sl
  simp [-gDQ,getD_set,hR,hr,fed] at sf
  simp [-gDQ,getD_set,hR,hr,lf] at sc
  simp [-gDQ,getD_set,hR,hr,ph] at sp
  refine ⟨by omega,fun y => ?_,fun v => ?_,fun v => ?_⟩
  ·have e1:=h2 y;have e2:=sb y;(try simp only [cI_cons,cI_app,ch_cons,ch_app,nF_snoc,nH_snoc] at e1);(try simp only [cI_cons,cI_app,ch_cons,ch_app,nF_snoc,nH_snoc]);omega
  ·have e1:=h3 v;have e2:=sc v;simp [-gDQ,cI_cons,cI_app,ch_cons,ch_app,nF_snoc,nH_snoc] at e1 ⊢;(try simp [-gDQ] at e2);omega
  ·have e1:=h4 v;have e2:=sp v;simp [-gDQ,cI_cons,cI_app,ch_cons,ch_app,nF_snoc,nH_snoc] at e1 ⊢;(try simp [-gDQ] at e2);omega
 ·have sb:=fun y => sm_set (hb y) rns k ⟨2,6,R,false⟩ hk
  have sl:=sm_set (lay b) rns k ⟨2,6,R,false⟩ hk
  have sf:=sm_set (fed n) rns k ⟨2,6,R,false⟩ hk
  have sc:=fun v => sm_set (lf cells' v) rns k ⟨2,6,R,false⟩ hk
  have sp:=fun v => sm_set (ph v) rns k ⟨2,6,R,false⟩ hk
  simp [-gDQ,getD_set,hR,hr,hb] at sb
  simp [-gDQ,getD_set,hR,hr,lay] at sl
  simp [-gDQ,getD_set,hR,hr,fed] at sf
  simp [-gDQ,getD_set,hR,hr,lf] at sc
  simp [-gDQ,getD_set,hR,hr,ph] at sp
  refine ⟨by omega,fun y => ?_,fun v => ?_,fun v => ?_⟩
  ·have e1:=h2 y;have e2:=sb y;(try simp only [cI_cons,cI_app,ch_cons,ch_app,nF_snoc,nH_snoc] at e1);(try simp only [cI_cons,cI_app,ch_cons,ch_app,nF_snoc,nH_snoc]);omega
  ·have e1:=h3 v;have e2:=sc v;simp [-gDQ,cI_cons,cI_app,ch_cons,ch_app,nF_snoc,nH_snoc] at e1 ⊢;(try simp [-gDQ] at e2);omega
  ·have e1:=h4 v;have e2:=sp v;simp [-gDQ,cI_cons,cI_app,ch_cons,ch_app,nF_snoc,nH_snoc] at e1 ⊢;(try simp [-gDQ] at e2);omega
 ·have sb:=fun y => sm_set (hb y) rns k ⟨2,13,R.set 3 x,false⟩ hk
  have sl:=sm_set (lay b) rns k ⟨2,13,R.set 3 x,false⟩ hk
  have sf:=sm_set (fed n) rns k ⟨2,13,R.set 3 x,false⟩ hk
  have sc:=fun v => sm_set (lf cells' v) rns k ⟨2,13,R.set 3 x,false⟩ hk
  have sp:=fun v => sm_set (ph v) rns k ⟨2,13,R.set 3 x,false⟩ hk
  simp [-gDQ,getD_set,hR,hr,hb] at sb
  simp [-gDQ,getD_set,hR,hr,lay] at sl
  simp [-gDQ,getD_set,hR,hr,fed] at sf
  simp [-gDQ,getD_set,hR,hr,lf] at sc
  simp [-gDQ,getD_set,hR,hr,ph] at sp
  refine ⟨by omega,fun y => ?_,fun v => ?_,fun v => ?_⟩
  ·have e1:=h2 y;have e2:=sb y;(try simp only [cI_cons,cI_app,ch_cons,ch_app,nF_snoc,nH_snoc] at e1);(try simp only [cI_cons,cI_app,ch_cons,ch_app,nF_snoc,nH_snoc]);omega
  ·have e1:=h3 v;have e2:=sc v;simp [-gDQ,cI_cons,cI_app,ch_cons,ch_app,nF_snoc,nH_snoc] at e1 ⊢;(try simp [-gDQ] at e2);omega
  ·have e1:=h4 v;have e2:=sp v;simp [-gDQ,cI_cons,cI_app,ch_cons,ch_app,nF_snoc,nH_snoc] at e1 ⊢;(try simp [-gDQ] at e2);omega
 ·obtain ⟨a1,a2,_⟩:=h.hand hk (x:=R.getD 3 0) (by rw [hr];simp [hb])
  have am : R.getD 3 0 % (cells.length : Int) = R.getD 3 0:=Int.emod_eq_of_lt a1 (by omega)
  rw [am];have hiw : (R.getD 3 0).toNat < cells.length:=by omega
  have wr:=fun v => h.write hk hr (R.getD 0 0) v
  have sb:=fun y => sm_set (hb y) rns k ⟨2,14,R,false⟩ hk
  have sl:=sm_set (lay b) rns k ⟨2,14,R,false⟩ hk
  have sf:=sm_set (fed n) rns k ⟨2,14,R,false⟩ hk
  have sc:=fun v => sm_set (lf (cells.set (R.getD 3 0).toNat (R.getD 0 0)) v) rns k ⟨2,14,R,false⟩ hk
  have sp:=fun v => sm_set (ph v) rns k ⟨2,14,R,false⟩ hk
  simp [-gDQ,getD_set,hR,hr,hb] at sb
  simp [-gDQ,getD_set,hR,hr,lay] at sl
  simp [-gDQ,getD_set,hR,hr,fed] at sf
  simp [-gDQ,getD_set,hR,hr,lf,hiw] at sc
  simp [-gDQ,getD_set,hR,hr,ph] at sp
  refine ⟨by omega,fun y => ?_,fun v => ?_,fun v => ?_⟩
  ·have e1:=h2 y;have e2:=sb y;(try simp only [cI_cons,cI_app,ch_cons,ch_app,nF_snoc,nH_snoc] at e1);(try simp only [cI_cons,cI_app,ch_cons,ch_app,nF_snoc,nH_snoc]);omega
  ·have e1:=h3 v;have e3:=wr v;rw [e3.1];have e2:=sc v;rw [e3.2] at e2;simp [-gDQ,cI_cons,cI_app,ch_cons,ch_app,nF_snoc,nH_snoc] at e1 ⊢;(try simp [-gDQ] at e2);omega
  ·have e1:=h4 v;have e2:=sp v;simp [-gDQ,cI_cons,cI_app,ch_cons,ch_app,nF_snoc,nH_snoc] at e1 ⊢;(try simp [-gDQ] at e2);omega
 ·have sb:=fun y => sm_set (hb y) rns k ⟨2,15,R,false⟩ hk
  have sl:=sm_set (lay b) rns k ⟨2,15,R,false⟩ hk
  have sf:=sm_set (fed n) rns k ⟨2,15,R,false⟩ hk
  have sc:=fun v => sm_set (lf cells' v) rns k ⟨2,15,R,false⟩ hk
  have sp:=fun v => sm_set (ph v) rns k ⟨2,15,R,false⟩ hk
  simp [-gDQ,getD_set,hR,hr,hb] at sb
  simp [-gDQ,getD_set,hR,hr,lay] at sl
  simp [-gDQ,getD_set,hR,hr,fed] at sf
  simp [-gDQ,getD_set,hR,hr,lf] at sc
  simp [-gDQ,getD_set,hR,hr,ph] at sp
  refine ⟨by omega,fun y => ?_,fun v => ?_,fun v => ?_⟩
  ·have e1:=h2 y;have e2:=sb y;(try simp only [cI_cons,cI_app,ch_cons,ch_app,nF_snoc,nH_snoc] at e1);(try simp only [cI_cons,cI_app,ch_cons,ch_app,nF_snoc,nH_snoc]);omega
  ·have e1:=h3 v;have e2:=sc v;simp [-gDQ,cI_cons,cI_app,ch_cons,ch_app,nF_snoc,nH_snoc] at e1 ⊢;(try simp [-gDQ] at e2);omega
  ·have e1:=h4 v;have e2:=sp v;simp [-gDQ,cI_cons,cI_app,ch_cons,ch_app,nF_snoc,nH_snoc] at e1 ⊢;(try simp [-gDQ] at e2);omega
 ·have sb:=fun y => sm_set (hb y) rns k ⟨0,12,R.set 3 x,false⟩ hk
  have sl:=sm_set (lay b) rns k ⟨0,12,R.set 3 x,false⟩ hk
  have sf:=sm_set (fed n) rns k ⟨0,12,R.set 3 x,false⟩ hk
  have sc:=fun v => sm_set (lf cells' v) rns k ⟨0,12,R.set 3 x,false⟩ hk
  have sp:=fun v => sm_set (ph v) rns k ⟨0,12,R.set 3 x,false⟩ hk
  simp [-gDQ,getD_set,hR,hr,hb] at sb
  simp [-gDQ,getD_set,hR,hr,lay] at sl
  simp [-gDQ,getD_set,hR,hr,fed] at sf
  simp [-gDQ,getD_set,hR,hr,lf] at sc
  simp [-gDQ,getD_set,hR,hr,ph] at sp
  refine ⟨by omega,fun y => ?_,fun v => ?_,fun v => ?_⟩
  ·have e1:=h2 y;have e2:=sb y;(try simp only [cI_cons,cI_app,ch_cons,ch_app,nF_snoc,nH_snoc] at e1);(try simp only [cI_cons,cI_app,ch_cons,ch_app,nF_snoc,nH_snoc]);omega
  ·have e1:=h3 v;have e2:=sc v;simp [-gDQ,cI_cons,cI_app,ch_cons,ch_app,nF_snoc,nH_snoc] at e1 ⊢;(try simp [-gDQ] at e2);omega
  ·have e1:=h4 v;have e2:=sp v;simp [-gDQ,cI_cons,cI_app,ch_cons,ch_app,nF_snoc,nH_snoc] at e1 ⊢;(try simp [-gDQ] at e2);omega
 ·have sb:=fun y => sm_set (hb y) rns k ⟨0,13,R,false⟩ hk
  have sl:=sm_set (lay b) rns k ⟨0,13,R,false⟩ hk
  have sf:=sm_set (fed n) rns k ⟨0,13,R,false⟩ hk
  have sc:=fun v => sm_set (lf cells' v) rns k ⟨0,13,R,false⟩ hk
  have sp:=fun v => sm_set (ph v) rns k ⟨0,13,R,false⟩ hk
  simp [-gDQ,getD_set,hR,hr,hb] at sb
  simp [-gDQ,getD_set,hR,hr,lay] at sl
  simp [-gDQ,getD_set,hR,hr,fed] at sf
  simp [-gDQ,getD_set,hR,hr,lf] at sc
  simp [-gDQ,getD_set,hR,hr,ph] at sp
  refine ⟨by omega,fun y => ?_,fun v => ?_,fun v => ?_⟩
  ·have e1:=h2 y;have e2:=sb y;(try simp only [cI_cons,cI_app,ch_cons,ch_app,nF_snoc,nH_snoc] at e1);(try simp only [cI_cons,cI_app,ch_cons,ch_app,nF_snoc,nH_snoc]);omega
  ·have e1:=h3 v;have e2:=sc v;simp [-gDQ,cI_cons,cI_app,ch_cons,ch_app,nF_snoc,nH_snoc] at e1 ⊢;(try simp [-gDQ] at e2);omega
  ·have e1:=h4 v;have e2:=sp v;simp [-gDQ,cI_cons,cI_app,ch_cons,ch_app,nF_snoc,nH_snoc] at e1 ⊢;(try simp [-gDQ] at e2);omega
end PQ
end Mc
end Go.Proofs.Ytfbnakmmmphedaa
