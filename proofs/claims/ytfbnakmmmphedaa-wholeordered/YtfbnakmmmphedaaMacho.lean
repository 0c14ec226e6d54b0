/-
 The machine of layer 13 (sched) as plain mathematics: states, steps, runs; what runs by two pick lists have in common.
-/
import Derived.Tactics
set_option linter.unusedVariables false
set_option linter.unusedSimpArgs false
namespace Go.Proofs.Ytfbnakmmmphedaa
open Go
namespace Mc
structure Ins where
 op : Int
 a : Int
 b : Int
 c : Int
structure Syst where
 progs : List (List Ins)
 rooms : List Int
 groups : Int
 locks : Int
 cells : Int
structure Rn where
 prog : Int
 pos : Int
 regs : List Int
 ended : Bool
structure Ev where
 who : Int
 op : Int
 a : Int
 value : Int
 shut : Bool
structure St where
 rns : List Rn
 held : List (List Int)
 shut : List Bool
 locked : List Bool
 groups : List Int
 cells : List Int
 evs : List Ev
def i0 : Ins:=⟨0,0,0,0⟩
def r0 : Rn:=⟨0,0,[],true⟩
def pg (s : Syst) (p : Int) : List Ins:=s.progs.getD p.toNat []
def rn (t : St) (k : Nat) : Rn:=t.rns.getD k r0
def ins (s : Syst) (t : St) (k : Nat) : Ins:=(pg s (rn t k).prog).getD (rn t k).pos.toNat i0
def reg (t : St) (k : Nat) (r : Int) : Int:=(rn t k).regs.getD r.toNat 0
def rest (x n : Int) : Int:=x % n
def can (s : Syst) (t : St) (k : Nat) : Bool :=
 if (rn t k).ended then false
 else if (ins s t k).op = 5 then t.shut.getD (ins s t k).a.toNat false || decide (((t.held.getD (ins s t k).a.toNat []).length : Int) < s.rooms.getD (ins s t k).a.toNat 0)
 else if (ins s t k).op = 6 then t.shut.getD (ins s t k).a.toNat false || decide (0 < (t.held.getD (ins s t k).a.toNat []).length)
 else if (ins s t k).op = 8 then !(t.locked.getD (ins s t k).a.toNat false)
 else if (ins s t k).op = 11 then decide (t.groups.getD (ins s t k).a.toNat 0 = 0)
 else true
def ready (s : Syst) (t : St) : List Nat:=(List.range t.rns.length).filter (can s t)
def over (t : St) : Bool:=t.rns.all (fun r => r.ended)
def fin (s : Syst) (t : St) : Int:=if over t then 1 else if 40000 ≤ t.evs.length then 4 else if ready s t = [] then 2 else 0
def setR (t : St) (k : Nat) (r v : Int) : List Rn:=t.rns.set k { rn t k with regs:=(rn t k).regs.set r.toNat v }
def setP (t : St) (k : Nat) (p : Int) : List Rn:=t.rns.set k { rn t k with pos:=p }
def on (s : Syst) (rs : List Rn) (k : Nat) : List Rn :=
 rs.set k { rs.getD k r0 with pos:=(rs.getD k r0).pos + 1,ended:=(rs.getD k r0).ended || decide (((pg s (rs.getD k r0).prog).length : Int) ≤ (rs.getD k r0).pos + 1) }
def own (s : Syst) (t : St) (k : Nat) : List Rn :=
 if (ins s t k).op = 1 then setR t k (ins s t k).a (ins s t k).b
 else if (ins s t k).op = 2 then setR t k (ins s t k).a (IntKind.i64.wrap (reg t k (ins s t k).a + reg t k (ins s t k).b))
 else if (ins s t k).op = 3 then (if reg t k (ins s t k).a < reg t k (ins s t k).b then setP t k ((ins s t k).c - 1) else t.rns)
 else if (ins s t k).op = 4 then setP t k ((ins s t k).c - 1)
 else if (ins s t k).op = 16 then t.rns.set k { rn t k with ended:=true }
 else t.rns
structure An where
 a : Int
 v : Int
 sh : Bool
 er : Int
 st : St
def chan (s : Syst) (t : St) (k : Nat) : An :=
 if (ins s t k).op = 5 then
  (if t.shut.getD (ins s t k).a.toNat false then ⟨(ins s t k).a,reg t k (ins s t k).b,false,131,t⟩
  else ⟨(ins s t k).a,reg t k (ins s t k).b,false,0,{ t with held:=t.held.set (ins s t k).a.toNat (t.held.getD (ins s t k).a.toNat [] ++ [reg t k (ins s t k).b]) }⟩)
 else if (ins s t k).op = 6 then
  (if t.held.getD (ins s t k).a.toNat [] = [] then ⟨(ins s t k).a,reg t k (ins s t k).b,true,0,{ t with rns:=setP t k ((ins s t k).c - 1) }⟩
  else ⟨(ins s t k).a,(t.held.getD (ins s t k).a.toNat []).headD 0,false,0,{ t with held:=t.held.set (ins s t k).a.toNat (t.held.getD (ins s t k).a.toNat []).tail,rns:=setR t k (ins s t k).b ((t.held.getD (ins s t k).a.toNat []).headD 0) }⟩)
 else if t.shut.getD (ins s t k).a.toNat false then ⟨(ins s t k).a,0,false,132,t⟩
 else ⟨(ins s t k).a,0,false,0,{ t with shut:=t.shut.set (ins s t k).a.toNat true }⟩
def cel (s : Syst) (t : St) (k : Nat) : Int:=rest (reg t k (ins s t k).a) t.cells.length
def grp (s : Syst) (t : St) (k : Nat) : Int:=IntKind.i64.wrap (t.groups.getD (ins s t k).a.toNat 0 + (ins s t k).b)
def shar (s : Syst) (t : St) (k : Nat) : An :=
 if (ins s t k).op = 8 then ⟨(ins s t k).a,0,false,0,{ t with locked:=t.locked.set (ins s t k).a.toNat true }⟩
 else if (ins s t k).op = 9 then
  (if t.locked.getD (ins s t k).a.toNat false then ⟨(ins s t k).a,0,false,0,{ t with locked:=t.locked.set (ins s t k).a.toNat false }⟩ else ⟨(ins s t k).a,0,false,133,t⟩)
 else if (ins s t k).op = 10 then
  (if grp s t k < 0 then ⟨(ins s t k).a,grp s t k,false,134,t⟩ else ⟨(ins s t k).a,grp s t k,false,0,{ t with groups:=t.groups.set (ins s t k).a.toNat (grp s t k) }⟩)
 else if (ins s t k).op = 12 then ⟨cel s t k,t.cells.getD (cel s t k).toNat 0,false,0,{ t with rns:=setR t k (ins s t k).b (t.cells.getD (cel s t k).toNat 0) }⟩
 else if (ins s t k).op = 13 then ⟨cel s t k,reg t k (ins s t k).b,false,0,{ t with cells:=t.cells.set (cel s t k).toNat (reg t k (ins s t k).b) }⟩
 else if (ins s t k).op = 14 then
  (if 512 ≤ t.rns.length then ⟨(ins s t k).a,0,false,135,t⟩
  else ⟨(ins s t k).a,t.rns.length,false,0,{ t with rns:=t.rns ++ [⟨(ins s t k).a,0,(rn t k).regs,(pg s (ins s t k).a).isEmpty⟩] }⟩)
 else if (ins s t k).op = 15 then ⟨(ins s t k).a,reg t k (ins s t k).b,false,0,t⟩
 else ⟨(ins s t k).a,0,false,0,t⟩
def act (s : Syst) (t : St) (k : Nat) : An :=
 if 5 ≤ (ins s t k).op ∧ (ins s t k).op ≤ 7 then chan s t k
 else if 8 ≤ (ins s t k).op ∧ (ins s t k).op ≤ 15 then shar s t k
 else ⟨0,0,false,0,{ t with rns:=own s t k }⟩
def ev (s : Syst) (t : St) (k : Nat) : Ev:=⟨k,(ins s t k).op,(act s t k).a,(act s t k).v,(act s t k).sh⟩
def bad (s : Syst) (t : St) (k : Nat) : Int:=(act s t k).er
def step (s : Syst) (t : St) (k : Nat) : St :=
 if bad s t k ≠ 0 then { t with evs:=t.evs ++ [ev s t k] }
 else { (act s t k).st with rns:=on s (act s t k).st.rns k,evs:=t.evs ++ [ev s t k] }
def turn (s : Syst) (picks : List Int) (t : St) : Nat :=
 (ready s t).getD (if t.evs.length < picks.length then (rest (picks.getD t.evs.length 0) (ready s t).length).toNat else 0) 0
def run (s : Syst) (picks : List Int) : Nat → St → Int × Int × St
 | 0,t => (0,0,t)
 | f + 1,t => if fin s t ≠ 0 then (fin s t,0,t)
  else if bad s t (turn s picks t) ≠ 0 then (3,bad s t (turn s picks t),step s t (turn s picks t))
  else run s picks f (step s t (turn s picks t))
def first (s : Syst) : St:=⟨[⟨0,0,List.replicate 8 0,(pg s 0).isEmpty⟩],s.rooms.map (fun _ => []),s.rooms.map (fun _ => false),List.replicate s.locks.toNat false,List.replicate s.groups.toNat 0,List.replicate s.cells.toNat 0,[]⟩
def play (s : Syst) (picks : List Int) : Int × Int × St:=run s picks 40001 (first s)
theorem chan_cases (s : Syst) (t : St) (k : Nat) (P : An → Prop) (h : ∀ a v sh er rs hd st,P ⟨a,v,sh,er,⟨rs,hd,st,t.locked,t.groups,t.cells,t.evs⟩⟩) : P (chan s t k):=by
 unfold chan
 split
 ·split <;> exact h ..
 ·split
  ·split <;> exact h ..
  ·split <;> exact h ..
theorem shar_cases (s : Syst) (t : St) (k : Nat) (P : An → Prop) (h : ∀ a v sh er rs lo gr ce,P ⟨a,v,sh,er,⟨rs,t.held,t.shut,lo,gr,ce,t.evs⟩⟩) : P (shar s t k):=by
 unfold shar
 repeat' split
 all_goals exact h ..
theorem step_evs (s : Syst) (t : St) (k : Nat) : (step s t k).evs = t.evs ++ [ev s t k]:=by
 unfold step
 split <;> rfl
theorem fin_len {s : Syst} {t : St} (h : fin s t = 0) : t.evs.length < 40000:=by
 unfold fin at h
 split at h
 ·cases h
 ·split at h
  ·cases h
  ·omega
theorem setR_len (t : St) (k : Nat) (r v : Int) : (setR t k r v).length = t.rns.length:=by simp [setR]
theorem own_len (s : Syst) (t : St) (k : Nat) : (own s t k).length = t.rns.length:=by
 unfold own
 repeat' split
 all_goals simp [setR,setP]
theorem ready_len (s : Syst) (t : St) : (ready s t).length ≤ t.rns.length:=by
 unfold ready
 refine Nat.le_trans (List.length_filter_le _ _) ?_
 simp
theorem fin_ready {s : Syst} {t : St} (h : fin s t = 0) : 0 < (ready s t).length:=by
 unfold fin at h
 split at h
 ·cases h
 ·split at h
  ·cases h
  ·split at h
   ·cases h
   ·rename_i h3
    exact List.length_pos_iff.2 h3
end Mc
end Go.Proofs.Ytfbnakmmmphedaa
