/-
  SysM, SysR, SysV in one.
-/
import Derived.Test.YthcndgnpmefefaaRunso
import Derived.Test.YthcndgnpmefefaaBsAo
import Derived.Test.YthcndgnpmefefaaOrdero
import Derived.Laws.Rows
set_option linter.unusedVariables false
set_option linter.unusedSimpArgs false
namespace Go.Proofs.Ythcndgnpmefefaa
open Go.RowKit
namespace LW
open Mc
def IR (W : World) (a : Option Addr) (l : List Ins) : Prop:=l = [] ∨ ∃ b off,a = some ⟨b,off,none⟩ ∧ ∀ j,j < l.length → W.cell? ⟨b,off + j * 4,none⟩ = some (.int .i64 (l.getD j i0).op) ∧ W.cell? ⟨b,off + j * 4 + 1,none⟩ = some (.int .i64 (l.getD j i0).a) ∧ W.cell? ⟨b,off + j * 4 + 2,none⟩ = some (.int .i64 (l.getD j i0).b) ∧ W.cell? ⟨b,off + j * 4 + 3,none⟩ = some (.int .i64 (l.getD j i0).c)
theorem IR.below {w w' : World} {a : Option Addr} {l : List Ins} (h : IR w a l) (hb : Below w.heap.size w w') : IR w' a l:=by
 rcases h with h | ⟨b,off,rfl,hc⟩
 ·exact .inl h
 ·refine .inr ⟨b,off,rfl,fun j hj => ?_⟩
  obtain ⟨h1,h2,h3,h4⟩:=hc j hj
  exact ⟨by rw [hb.cell (lt_of_cell h1)];exact h1,by rw [hb.cell (lt_of_cell h2)];exact h2,by rw [hb.cell (lt_of_cell h3)];exact h3,by rw [hb.cell (lt_of_cell h4)];exact h4⟩
def PR (W : World) (a : Option Addr) (ps : List (List Ins)) : Prop:=ps = [] ∨ ∃ b off,a = some ⟨b,off,none⟩ ∧ ∀ p,p < ps.length → ∃ A K,W.cell? ⟨b,off + p,none⟩ = some (.slice A (ps.getD p []).length K) ∧ IR W A (ps.getD p [])
theorem PR.below {w w' : World} {a : Option Addr} {ps : List (List Ins)} (h : PR w a ps) (hb : Below w.heap.size w w') : PR w' a ps:=by
 rcases h with h | ⟨b,off,rfl,hc⟩
 ·exact .inl h
 ·refine .inr ⟨b,off,rfl,fun p hp => ?_⟩
  obtain ⟨A,K,h1,h2⟩:=hc p hp
  exact ⟨A,K,by rw [hb.cell (lt_of_cell h1)];exact h1,h2.below hb⟩
def NR (W : World) (a : Option Addr) (xs : List Int) : Prop:=xs = [] ∨ ∃ b off,a = some ⟨b,off,none⟩ ∧ ∀ j,j < xs.length → W.cell? ⟨b,off + j,none⟩ = some (.int .i64 (xs.getD j 0))
theorem NR.below {w w' : World} {a : Option Addr} {xs : List Int} (h : NR w a xs) (hb : Below w.heap.size w w') : NR w' a xs:=by
 rcases h with h | ⟨b,off,rfl,hc⟩
 ·exact .inl h
 ·exact .inr ⟨b,off,rfl,fun j hj => by rw [hb.cell (lt_of_cell (hc j hj))];exact hc j hj⟩
def syC (s : Syst) (pa : Option Addr) (pc : Nat) (ra : Option Addr) (rc : Nat) : Array Value:=#[.slice pa s.progs.length pc,.slice ra s.rooms.length rc,.int .i64 s.groups,.int .i64 s.locks,.int .i64 s.cells]
structure SM (W : World) (s : Syst) (pa ra : Option Addr) : Prop where
 pr : PR W pa s.progs
 rm : NR W ra s.rooms
theorem SM.below {w w' : World} {s : Syst} {pa ra : Option Addr} (h : SM w s pa ra) (hb : Below w.heap.size w w') : SM w' s pa ra:=⟨h.pr.below hb,h.rm.below hb⟩
theorem cellsY5 {w : World} {b : Nat} {t : TypeId} {v0 v1 v2 v3 v4 : Value} (h : w.heap[b]? = some (.cells #[v0,v1,v2,v3,v4] t (0,0))) : w.cell? ⟨b,0,none⟩ = some v0 ∧ w.cell? ⟨b,1,none⟩ = some v1 ∧ w.cell? ⟨b,2,none⟩ = some v2 ∧ w.cell? ⟨b,3,none⟩ = some v3 ∧ w.cell? ⟨b,4,none⟩ = some v4:=by
 simp [World.cell?,h]
theorem cellsY4 {w : World} {b : Nat} {t : TypeId} {v0 v1 v2 v3 : Value} (h : w.heap[b]? = some (.cells #[v0,v1,v2,v3] t (0,0))) : w.cell? ⟨b,0,none⟩ = some v0 ∧ w.cell? ⟨b,1,none⟩ = some v1 ∧ w.cell? ⟨b,2,none⟩ = some v2 ∧ w.cell? ⟨b,3,none⟩ = some v3:=by
 simp [World.cell?,h]
def flT : List ByteArray:=[⟨#[]⟩,⟨#[114,120,110]⟩,⟨#[114,114,110]⟩,⟨#[114,114,112]⟩,⟨#[110,110,112]⟩,⟨#[99,114,110]⟩,⟨#[99,114,112]⟩,⟨#[99,110,110]⟩,⟨#[108,110,110]⟩,⟨#[108,110,110]⟩,⟨#[103,120,110]⟩,⟨#[103,110,110]⟩,⟨#[114,114,110]⟩,⟨#[114,114,110]⟩,⟨#[115,110,110]⟩,⟨#[120,114,110]⟩,⟨#[110,110,110]⟩]
def fdT (op : Int) : ByteArray:=if op < 1 ∨ 17 ≤ op then ⟨#[]⟩ else flT.getD op.toNat ⟨#[]⟩
set_option maxRecDepth 100000 in
set_option maxHeartbeats 1000000 in
theorem rfields (op : Int) (w : World) : Calls Try.prog 76 #[.int .i64 op] w fun e w' => e = .returned (.string (fdT op)) ∧ Below w.heap.size w w':=by
 have hb0:=(Below.refl w.heap.size w).alloc (Nat.le_refl _) (.cells (flT.map Value.string).toArray 9)
 have n0:=heap_alloc_new w (.cells (flT.map Value.string).toArray 9)
 have hcl : ∀ o : Nat,o < 17 → (w.alloc (.cells (flT.map Value.string).toArray 9)).cell? ⟨w.heap.size,o,none⟩ = some (.string (flT.getD o ⟨#[]⟩)):=fun o ho => by
  refine blk_cell n0 ?_
  have hl : flT.length = 17:=rfl
  rw [List.getElem?_toArray,List.getElem?_map,List.getElem?_eq_getElem (by rw [hl];exact ho),List.getD_eq_getElem?_getD,List.getElem?_eq_getElem (by rw [hl];exact ho)]
  rfl
 have HB:=TW.hide hb0
 have HC:=TW.hide hcl
 clear hb0 n0 hcl
 rw [show (flT.map Value.string).toArray = #[.string ⟨#[]⟩,.string ⟨#[114,120,110]⟩,.string ⟨#[114,114,110]⟩,.string ⟨#[114,114,112]⟩,.string ⟨#[110,110,112]⟩,.string ⟨#[99,114,110]⟩,.string ⟨#[99,114,112]⟩,.string ⟨#[99,110,110]⟩,.string ⟨#[108,110,110]⟩,.string ⟨#[108,110,110]⟩,.string ⟨#[103,120,110]⟩,.string ⟨#[103,110,110]⟩,.string ⟨#[114,114,110]⟩,.string ⟨#[114,114,110]⟩,.string ⟨#[115,110,110]⟩,.string ⟨#[120,114,110]⟩,.string ⟨#[110,110,110]⟩] from rfl] at HB HC
 go_enter Try.func76,Try.ntmps76
 refine wp_seq_k fun K hK => ?_
 have HK:=TW.hide hK
 clear hK
 go_wp2
 refine HK.out _ _ ?_
 clear HK K
 refine wp_seq_k fun K hK => ?_
 have HK:=TW.hide hK
 clear hK
 go_wp2
 refine HK.out _ _ ?_
 clear HK K
 generalize w.alloc _ = X at *
 have HF : Hid (fdT op = if op < 1 ∨ 17 ≤ op then ⟨#[]⟩ else flT.getD op.toNat ⟨#[]⟩):=rfl
 generalize fdT op = F at *
 by_cases h1 : op < 1
 ·have HE : Hid (F = ⟨#[]⟩):=by show _ = _;rw [HF.out,if_pos (.inl h1)]
  go_wp2
  go_ret
  exact ⟨by rw [HE.out];rfl,HB.out⟩
 ·by_cases h2 : 17 ≤ op
  ·have HE : Hid (F = ⟨#[]⟩):=by show _ = _;rw [HF.out,if_pos (.inr h2)]
   have h3 : ¬ op < 17:=by omega
   go_wp2
   go_ret
   exact ⟨by rw [HE.out];rfl,HB.out⟩
  ·have HE : Hid (F = flT.getD op.toNat ⟨#[]⟩):=by show _ = _;rw [HF.out,if_neg (by omega)]
   obtain ⟨o,rfl⟩ : ∃ o : Nat,op = (o : Int):=⟨op.toNat,by omega⟩
   have h3 : (o : Int) < 17:=by omega
   have h4 : (0 : Int) ≤ (o : Int):=by omega
   have hc:=HC.out o (by omega)
   rw [show flT.getD o ⟨#[]⟩ = F by rw [HE.out];rfl] at hc
   clear HC HF HE
   go_wp2
   go_ret
   exact ⟨rfl,HB.out⟩
set_option maxRecDepth 100000 in
set_option maxHeartbeats 1000000 in
theorem rbound (s : Syst) (pa : Option Addr) (pc : Nat) (ra : Option Addr) (rc : Nat) (p : Nat) (c : Int) (w : World) (hS : SM w s pa ra) (hp : p < s.progs.length) (hl : (s.progs.getD p []).length ≤ 4611686018427387904) :
  Calls Try.prog 77 #[.agg (syC s pa pc ra rc),.int .i64 p,.int .u8 c] w fun e w' => e = .returned (.int .i64 (bdM s p c)) ∧ Below w.heap.size w w':=by
 obtain ⟨b,off,rfl,A,K,hpc⟩ : ∃ b off,pa = some ⟨b,off,none⟩ ∧ ∃ A K,w.cell? ⟨b,off + p,none⟩ = some (.slice A (s.progs.getD p []).length K):=by
  rcases hS.pr with h | ⟨b,off,e,hc⟩
  ·rw [h] at hp;simp at hp
  ·obtain ⟨A,K,h1,_⟩:=hc p hp
   exact ⟨b,off,e,A,K,h1⟩
 unfold syC
 have n0:=heap_alloc_new w (.cells #[.slice (some ⟨b,off,none⟩) s.progs.length pc,.slice ra s.rooms.length rc,.int .i64 s.groups,.int .i64 s.locks,.int .i64 s.cells] 25)
 have hb0:=(Below.refl w.heap.size w).alloc (Nat.le_refl _) (.cells #[.slice (some ⟨b,off,none⟩) s.progs.length pc,.slice ra s.rooms.length rc,.int .i64 s.groups,.int .i64 s.locks,.int .i64 s.cells] 25)
 rw [← hb0.cell (lt_of_cell hpc)] at hpc
 obtain ⟨c0,c1,c2,c3,c4⟩:=cellsY5 n0
 have HB:=TW.hide hb0
 have HE : Hid (bdM s p c = if c = 114 then 8 else if c = 112 then ((s.progs.getD p []).length : Int) + 1 else if c = 99 then s.rooms.length else if c = 108 then s.locks else if c = 103 then s.groups else if c = 115 then s.progs.length else 1):=rfl
 generalize bdM s p c = E at *
 clear n0 hb0 hS
 generalize (s.progs.getD p []).length = pl at *
 generalize hn : s.progs.length = n at *
 have hp1 : (p : Int) < (n : Int):=by omega
 have hp0 : (0 : Int) ≤ (p : Int):=by omega
 have ew : IntKind.i64.wrap ((pl : Int) + 1) = (pl : Int) + 1:=by rw [IntKind.wrap_i64];omega
 clear hn hp
 go_enter Try.func77,Try.ntmps77
 refine wp_seq_k fun K hK => ?_
 have HK:=TW.hide hK
 clear hK
 go_wp2_with fail
 refine HK.out _ _ ?_
 clear HK K
 generalize w.alloc _ = X at *
 by_cases h1 : c = 114
 ·have HF : Hid (E = 8):=by show _ = _;rw [HE.out,if_pos h1]
  have k1 : (c == 114) = true:=by simp [h1]
  clear h1
  go_wp2
  go_ret
  exact ⟨by rw [HF.out];rfl,HB.out⟩
 have k1 : (c == 114) = false:=by simp [h1]
 by_cases h2 : c = 112
 ·have HF : Hid (E = (pl : Int) + 1):=by show _ = _;rw [HE.out,if_neg h1,if_pos h2]
  have k2 : (c == 112) = true:=by simp [h2]
  clear h1 h2
  go_wp2
  go_ret
  exact ⟨by rw [HF.out];rfl,HB.out⟩
 have k2 : (c == 112) = false:=by simp [h2]
 by_cases h3 : c = 99
 ·have HF : Hid (E = (s.rooms.length : Int)):=by show _ = _;rw [HE.out,if_neg h1,if_neg h2,if_pos h3]
  have k3 : (c == 99) = true:=by simp [h3]
  clear h1 h2 h3
  go_wp2
  go_ret
  exact ⟨by rw [HF.out];rfl,HB.out⟩
 have k3 : (c == 99) = false:=by simp [h3]
 by_cases h4 : c = 108
 ·have HF : Hid (E = s.locks):=by show _ = _;rw [HE.out,if_neg h1,if_neg h2,if_neg h3,if_pos h4]
  have k4 : (c == 108) = true:=by simp [h4]
  clear h1 h2 h3 h4
  go_wp2
  go_ret
  exact ⟨by rw [HF.out];rfl,HB.out⟩
 have k4 : (c == 108) = false:=by simp [h4]
 by_cases h5 : c = 103
 ·have HF : Hid (E = s.groups):=by show _ = _;rw [HE.out,if_neg h1,if_neg h2,if_neg h3,if_neg h4,if_pos h5]
  have k5 : (c == 103) = true:=by simp [h5]
  clear h1 h2 h3 h4 h5
  go_wp2
  go_ret
  exact ⟨by rw [HF.out];rfl,HB.out⟩
 have k5 : (c == 103) = false:=by simp [h5]
 by_cases h6 : c = 115
 ·have HF : Hid (E = (n : Int)):=by show _ = _;rw [HE.out,if_neg h1,if_neg h2,if_neg h3,if_neg h4,if_neg h5,if_pos h6]
  have k6 : (c == 115) = true:=by simp [h6]
  clear h1 h2 h3 h4 h5 h6
  go_wp2
  go_ret
  exact ⟨by rw [HF.out];rfl,HB.out⟩
 have k6 : (c == 115) = false:=by simp [h6]
 have HF : Hid (E = 1):=by show _ = _;rw [HE.out,if_neg h1,if_neg h2,if_neg h3,if_neg h4,if_neg h5,if_neg h6]
 clear h1 h2 h3 h4 h5 h6
 go_wp2
 go_ret
 exact ⟨by rw [HF.out];rfl,HB.out⟩
end LW
end Go.Proofs.Ythcndgnpmefefaa
namespace Go.Proofs.Ythcndgnpmefefaa
open List renaming setIfInBounds_toArray → lpA,set_cons_zero → lpZ,set_cons_succ → lpS,getElem_toArray → lgT,getElem_cons_zero → lgZ,getElem_cons_succ → lgS
open Go.RowKit
namespace LW
open Mc
theorem exec_load_row {P : Program} {o : Oper} {a : Act} {w : World} (ty : TypeId) (x : Operand) (ho : o.op = .load ty x) (g : Nat) (hx : a.eval x = .pointer (some ⟨g,0,none⟩)) (t : TypeId) (cs : Array Value) (fr : Nat × Nat) (d : TypeDesc)
  (hg : w.heap[g]? = some (.cells cs t fr)) (hu : P.underlying ty = some d) (hd : (match d with | .struct _ | .array _ _ => true | _ => false) = true) (hi : (P.info? ty).map (·.size) = some cs.size) :
  (execOp a.eval o).run P w = .ok (.value (.agg cs)) w:=by
 unfold execOp
 simp only [ho,hx,Instr.loadAt,Instr.sureAddr,Sem.run_bind,Sem.run_pure,Result.andThen_ok,run_loadVar_row w g t ty cs fr d hg hu hd hi]
theorem exec_load_row' {P : Program} {o : Oper} {a : Act} {w : World} (ty : TypeId) (x : Operand) (ho : o.op = .load ty x) (g : Nat) (hx : a.eval x = .pointer (some ⟨g,0,none⟩)) (t : TypeId) (cs : Array Value) (fr : Nat × Nat) (d : TypeDesc)
  (hg : w.heap[g]? = some (.cells cs t fr)) (hu : P.underlying ty = some d) (hd : (match d with | .struct _ | .array _ _ => true | _ => false) = true) (hi : (P.info? ty).map (·.size) = some cs.size) :
  (execOp a.eval o).run P w = .ok (.value (.agg cs)) w:=exec_load_row ty x ho g hx t cs fr d hg hu hd hi
theorem cells3R {w : World} {b : Nat} {t : TypeId} {v0 v1 v2 : Value} (h : w.heap[b]? = some (.cells #[v0,v1,v2] t (0,0))) : w.cell? ⟨b,0,none⟩ = some v0 ∧ w.cell? ⟨b,1,none⟩ = some v1 ∧ w.cell? ⟨b,2,none⟩ = some v2:=by
 simp [World.cell?,h]
def RiP (R : Prop) (w : World) : Ending → World → Prop:=fun e w' => ∃ x : Bool,e = .returned (.bool x) ∧ (x = true ↔ R) ∧ Below w.heap.size w w'
theorem fd_cases (op : Int) (h1 : 1 ≤ op) (h2 : op ≤ 16) : ∃ u0 u1 u2 : UInt8,fdT op = ⟨#[u0,u1,u2]⟩ ∧ fdM op = [(u0.toNat : Int),(u1.toNat : Int),(u2.toNat : Int)]:=by
 obtain ⟨o,rfl⟩ : ∃ o : Nat,op = (o : Int):=⟨op.toNat,by omega⟩
 have : o = 1 ∨ o = 2 ∨ o = 3 ∨ o = 4 ∨ o = 5 ∨ o = 6 ∨ o = 7 ∨ o = 8 ∨ o = 9 ∨ o = 10 ∨ o = 11 ∨ o = 12 ∨ o = 13 ∨ o = 14 ∨ o = 15 ∨ o = 16:=by omega
 unfold fdT fdM
 rw [if_neg (by omega),if_neg (by omega),Int.toNat_natCast]
 rcases this with rfl | rfl | rfl | rfl | rfl | rfl | rfl | rfl | rfl | rfl | rfl | rfl | rfl | rfl | rfl | rfl <;> exact ⟨_,_,_,rfl,rfl⟩
set_option maxRecDepth 100000 in
set_option maxHeartbeats 2000000 in
theorem rright (s : Syst) (b off : Nat) (pc : Nat) (ra : Option Addr) (rc : Nat) (p n : Nat) (op a0 a1 a2 : Int) (w : World) (hS : SM w s (some ⟨b,off,none⟩) ra) (hn : s.progs.length = n) (hp : p < n) (hl : (s.progs.getD p []).length ≤ 4611686018427387904) :
  Calls Try.prog 61 #[.agg #[.slice (some ⟨b,off,none⟩) n pc,.slice ra s.rooms.length rc,.int .i64 s.groups,.int .i64 s.locks,.int .i64 s.cells],.int .i64 p,.agg #[.int .i64 op,.int .i64 a0,.int .i64 a1,.int .i64 a2]] w (RiP (rightM s p ⟨op,a0,a1,a2⟩) w):=by
 have HBo : Hid (∀ (c : Int) W,Below w.heap.size w W → Calls Try.prog 77 #[.agg #[.slice (some ⟨b,off,none⟩) n pc,.slice ra s.rooms.length rc,.int .i64 s.groups,.int .i64 s.locks,.int .i64 s.cells],.int .i64 p,.int .u8 c] W fun e w' => e = .returned (.int .i64 (bdM s p c)) ∧ Below W.heap.size W w'):=fun c W hW => by
  have:=rbound s (some ⟨b,off,none⟩) pc ra rc p c W (hS.below hW) (by omega) hl
  unfold syC at this
  rw [hn] at this
  exact this
 have HFi:=TW.hide (fun W => rfields op W)
 obtain ⟨R,hR⟩ : ∃ R,R = rightM s p ⟨op,a0,a1,a2⟩:=⟨_,rfl⟩
 have HR : Hid (R = (1 ≤ op ∧ op ≤ 16 ∧ fitM s p ((fdM op).getD 0 0) a0 ∧ fitM s p ((fdM op).getD 1 0) a1 ∧ fitM s p ((fdM op).getD 2 0) a2 ∧ ((op = 12 ∨ op = 13) → 0 < s.cells))):=hR
 rw [← hR]
 clear hR hS hn hl
 have n0:=heap_alloc_new w (.cells #[.slice (some ⟨b,off,none⟩) n pc,.slice ra s.rooms.length rc,.int .i64 s.groups,.int .i64 s.locks,.int .i64 s.cells] 25)
 have hb0:=(Below.refl w.heap.size w).alloc (Nat.le_refl _) (.cells #[.slice (some ⟨b,off,none⟩) n pc,.slice ra s.rooms.length rc,.int .i64 s.groups,.int .i64 s.locks,.int .i64 s.cells] 25)
 have n1:=heap_alloc_new (w.alloc (.cells #[.slice (some ⟨b,off,none⟩) n pc,.slice ra s.rooms.length rc,.int .i64 s.groups,.int .i64 s.locks,.int .i64 s.cells] 25)) (.cells #[.int .i64 op,.int .i64 a0,.int .i64 a1,.int .i64 a2] 108)
 rw [show (w.alloc (.cells #[.slice (some ⟨b,off,none⟩) n pc,.slice ra s.rooms.length rc,.int .i64 s.groups,.int .i64 s.locks,.int .i64 s.cells] 25)).heap.size = w.heap.size + 1 by simp] at n1
 have n0:=blk_alloc (o':=.cells #[.int .i64 op,.int .i64 a0,.int .i64 a1,.int .i64 a2] 108) n0
 have hb1:=hb0.alloc hb0.size (.cells #[.int .i64 op,.int .i64 a0,.int .i64 a1,.int .i64 a2] 108)
 have N0:=TW.hide n0
 have N1:=TW.hide n1
 have NB:=TW.hide hb1
 clear n0 n1 hb0 hb1
 go_enter Try.func61,Try.ntmps61
 refine wp_seq_k fun K hK => ?_
 have HK:=TW.hide hK
 clear hK
 go_wp2_with fail
 refine HK.out _ _ ?_
 clear HK K
 generalize (w.alloc _).alloc _ = V at *
 obtain ⟨i1,i2,i3,i4⟩:=cellsY4 N1.out
 refine wp_seq_k fun K hK => ?_
 have HK:=TW.hide hK
 clear hK
 go_wp2_with fail
 refine (HFi.out _).mono ?_
 rintro e1 w1 ⟨rfl,hb⟩
 clear i1 i2 i3 i4 HFi
 have N0:=TW.hide (blk_keep N0.out hb)
 have N1:=TW.hide (blk_keep N1.out hb)
 have NB : Hid (Below w.heap.size w w1):=NB.out.trans (hb.mono NB.out.size)
 clear hb
 go_wp2
 refine HK.out _ _ ?_
 clear HK K
 by_cases hop : 1 ≤ op ∧ op ≤ 16
 ·obtain ⟨u0,u1,u2,hF,hM⟩:=fd_cases op hop.1 hop.2
  rw [hF]
  have HR2 : Hid (R = (fitM s p (u0.toNat : Int) a0 ∧ fitM s p (u1.toNat : Int) a1 ∧ fitM s p (u2.toNat : Int) a2 ∧ ((op = 12 ∨ op = 13) → 0 < s.cells))):=by
   show _ = _
   rw [HR.out,hM]
   simp [hop]
  clear HR hF hM
  obtain ⟨i1,i2,i3,i4⟩:=cellsY4 N1.out
  refine wp_seq_k fun K hK => ?_
  have HK:=TW.hide hK
  clear hK
  go_wp2
  refine HK.out _ _ ?_
  clear HK K
  have hA : Below w1.heap.size w1 (w1.alloc (.cells #[.int .i64 a0,.int .i64 a1,.int .i64 a2] 134)):=(Below.refl _ _).alloc (Nat.le_refl _) _
  have XS:=TW.hide (blk_keep N0.out hA)
  have XI:=TW.hide (blk_keep N1.out hA)
  have XV:=TW.hide (heap_alloc_new w1 (.cells #[.int .i64 a0,.int .i64 a1,.int .i64 a2] 134))
  have NBX : Hid (Below w.heap.size w (w1.alloc (.cells #[.int .i64 a0,.int .i64 a1,.int .i64 a2] 134))):=NB.out.trans (hA.mono NB.out.size)
  clear N0 N1 NB hA
  refine wp_seq_k fun K hK => ?_
  have HK:=TW.hide hK
  clear hK
  go_wp2
  refine HK.out _ _ ?_
  clear HK K i1 i2 i3 i4
  generalize w1.alloc _ = X at *
  generalize w1.heap.size = gv at *
  refine wp_seq_k fun K0 hK0 => ?_
  have HK0:=TW.hide hK0
  clear hK0
  go_wp2
  go_loopw [9] (fun i wr => ∃ k : Nat,k ≤ 3 ∧ i = .int .i64 (k : Int) ∧ Below X.heap.size X wr ∧ Hid ((0 < k → fitM s p (u0.toNat : Int) a0) ∧ (1 < k → fitM s p (u1.toNat : Int) a1) ∧ (2 < k → fitM s p (u2.toNat : Int) a2))) (fun i wr => 3 - (intOf i).toNat)
  case atStart => exact ⟨0,by omega,rfl,Below.refl _ _,TW.hide ⟨fun h => by omega,fun h => by omega,fun h => by omega⟩⟩
  case round =>
   obtain ⟨k,hk,rfl,hwr,HQ⟩:=hrel
   have hkk : k = 0 ∨ k = 1 ∨ k = 2 ∨ k = 3:=by omega
   rcases hkk with rfl | rfl | rfl | rfl
   ·have HX0 : Hid (Below X.heap.size X wr):=hwr
    clear hwr
    go_wp2
    by_cases hx : (u0.toNat : Int) = 120
    ·have k1 : ((u0.toNat : Int) != 120) = false:=by simp [hx]
     have HFIT : Hid (fitM s p (u0.toNat : Int) a0):=.inl hx
     clear hx
     refine wp_region_noPanic ?_
     refine RG.wp_region_L (fun Z => True) (fun Z => Below X.heap.size X Z) [] (by kernel_rfl) ?_
     refine RG.wpL_any fun Yr0a hY => ?_
     have HTr0a : Hid (Below X.heap.size X Yr0a):=by rw [hY];exact below_drewN HX0.out 1
     clear hY
     refine RG.wpL_take (fuel:=0) (a':=?Ar0a) [0,1,2,3,4,5,6,7,8,9,10,11,12,13,14,15,16,17,18,19,20,21] (by kernel_rfl) (by kernel_rfl) (fun _ _ _ _ _ h => h) HTr0a.out (fun _ => trivial) ?rr0a ?_
     case rr0a =>
      iterate 2
       refine RG.RunsIf.weak (v:=?_) (by rfl) (by rfl) (fun Z hT => ?_) ?_
       rotate_left
       ·go_simp
        rfl
       simp only [Act.put,lpA,lpZ,lpS,lgT,lgZ,lgS]
      refine RG.RunsIf.weak (v:=.int .u8 (u0.toNat : Int)) (by rfl) (by rfl) (fun Z hT => ?_) ?_
      ·(go_simp) <;> rfl
      simp only [Act.put,lpA,lpZ,lpS,lgT,lgZ,lgS]
      iterate 2
       refine RG.RunsIf.weak (v:=.bool false) (by rfl) (by rfl) (fun Z hT => ?_) ?_
       ·go_simp
       simp only [Act.put,lpA,lpZ,lpS,lgT,lgZ,lgS]
      iterate 16
       refine RG.RunsIf.skip (by rfl) (by rfl) ?_
       simp only [Act.put,lpA,lpZ,lpS,lgT,lgZ,lgS]
      refine RG.RunsIf.weak (v:=?_) (by rfl) (by rfl) (fun Z hT => ?_) ?_
      rotate_left
      ·go_simp
       rfl
      simp only [Act.put,lpA,lpZ,lpS,lgT,lgZ,lgS]
      exact RG.RunsIf.nil
     refine RG.wpL_done (by kernel_rfl) ?_ _
     refine NoPanic.normal ?_
     go_wp2
     go_roundw
     case rel => exact ⟨1,by omega,rfl,HTr0a.out,TW.hide ⟨fun _ => HFIT.out,fun h => by omega,fun h => by omega⟩⟩
     case measure => simp [intOf]
    ·have k1 : ((u0.toNat : Int) != 120) = true:=by simp [hx]
     by_cases hneg : a0 < 0
     ·have HNF : Hid (¬ fitM s p (u0.toNat : Int) a0):=by
       intro h
       rcases h with h | h
       ·exact hx h
       ·omega
      clear hx
      refine wp_region_noPanic ?_
      refine RG.wp_region_L (fun Z => True) (fun Z => Below X.heap.size X Z) [] (by kernel_rfl) ?_
      refine RG.wpL_any fun Yr0b hY => ?_
      have HTr0b : Hid (Below X.heap.size X Yr0b):=by rw [hY];exact below_drewN HX0.out 1
      clear hY
      refine RG.wpL_take (fuel:=0) (a':=?Ar0b) [0,1,2,3,4,5,6,7,8,9,10,11,12,13,14,15,16,17,18,19,20,21] (by kernel_rfl) (by kernel_rfl) (fun _ _ _ _ _ h => h) HTr0b.out (fun _ => trivial) ?rr0b ?_
      case rr0b =>
       iterate 2
        refine RG.RunsIf.weak (v:=?_) (by rfl) (by rfl) (fun Z hT => ?_) ?_
        rotate_left
        ·go_simp
         rfl
        simp only [Act.put,lpA,lpZ,lpS,lgT,lgZ,lgS]
       refine RG.RunsIf.weak (v:=.int .u8 (u0.toNat : Int)) (by rfl) (by rfl) (fun Z hT => ?_) ?_
       ·(go_simp) <;> rfl
       simp only [Act.put,lpA,lpZ,lpS,lgT,lgZ,lgS]
       iterate 2
        refine RG.RunsIf.weak (v:=.bool true) (by rfl) (by rfl) (fun Z hT => ?_) ?_
        ·go_simp
        simp only [Act.put,lpA,lpZ,lpS,lgT,lgZ,lgS]
       iterate 2
        refine RG.RunsIf.weak (v:=?_) (by rfl) (by rfl) (fun Z hT => ?_) ?_
        rotate_left
        ·go_simp
         rfl
        simp only [Act.put,lpA,lpZ,lpS,lgT,lgZ,lgS]
       refine RG.RunsIf.weak (v:=.int .i64 a0) (by rfl) (by rfl) (fun Z hT => ?_) ?_
       ·obtain ⟨v0,v1,v2⟩:=cells3R (blk_keep XV.out hT)
        go_simp
       simp only [Act.put,lpA,lpZ,lpS,lgT,lgZ,lgS]
       iterate 2
        refine RG.RunsIf.weak (v:=.bool true) (by rfl) (by rfl) (fun Z hT => ?_) ?_
        ·go_simp
        simp only [Act.put,lpA,lpZ,lpS,lgT,lgZ,lgS]
       iterate 10
        refine RG.RunsIf.skip (by rfl) (by rfl) ?_
        simp only [Act.put,lpA,lpZ,lpS,lgT,lgZ,lgS]
       iterate 2
        refine RG.RunsIf.weak (v:=?_) (by rfl) (by rfl) (fun Z hT => ?_) ?_
        rotate_left
        ·go_simp
         rfl
        simp only [Act.put,lpA,lpZ,lpS,lgT,lgZ,lgS]
       exact RG.RunsIf.nil
      refine RG.wpL_done (by kernel_rfl) ?_ _
      refine NoPanic.normal ?_
      go_wp2
      go_ret
      unfold RiP
      refine ⟨false,rfl,⟨fun h => (by cases h),fun h => ?_⟩,NBX.out.trans (HTr0b.out.mono NBX.out.size)⟩
      rw [HR2.out] at h
      exact absurd h.1 HNF.out
     ·have HBk:=TW.hide (HBo.out (u0.toNat : Int))
      have HFe : Hid (fitM s p (u0.toNat : Int) a0 ↔ a0 < bdM s p (u0.toNat : Int)):=by
       constructor
       ·rintro (h | h)
        ·exact absurd h hx
        ·exact h.2
       ·intro h
        exact .inr ⟨by omega,h⟩
      generalize bdM s p (u0.toNat : Int) = bd at *
      clear hx
      by_cases hbd : a0 < bd
      ·have HFIT : Hid (fitM s p (u0.toNat : Int) a0):=HFe.out.2 hbd
       have k3 : ¬ bd ≤ a0:=by omega
       refine wp_region_noPanic ?_
       refine RG.wp_region_L (fun Z => True) (fun Z => Below X.heap.size X Z) [] (by kernel_rfl) ?_
       refine RG.wpL_any fun Yr0c hY => ?_
       have HTr0c : Hid (Below X.heap.size X Yr0c):=by rw [hY];exact below_drewN HX0.out 1
       clear hY
       refine RG.wpL_take (fuel:=4) (a':=?Ar0c) [0,1,2,3,4,5,6,7,8,9,10,11,12,13,14,15,16,17] (by kernel_rfl) (by kernel_rfl) (fun _ _ _ _ _ h => h) HTr0c.out (fun _ => trivial) ?rr0c ?_
       case rr0c =>
        iterate 2
         refine RG.RunsIf.weak (v:=?_) (by rfl) (by rfl) (fun Z hT => ?_) ?_
         rotate_left
         ·go_simp
          rfl
         simp only [Act.put,lpA,lpZ,lpS,lgT,lgZ,lgS]
        refine RG.RunsIf.weak (v:=.int .u8 (u0.toNat : Int)) (by rfl) (by rfl) (fun Z hT => ?_) ?_
        ·(go_simp) <;> rfl
        simp only [Act.put,lpA,lpZ,lpS,lgT,lgZ,lgS]
        iterate 2
         refine RG.RunsIf.weak (v:=.bool true) (by rfl) (by rfl) (fun Z hT => ?_) ?_
         ·go_simp
         simp only [Act.put,lpA,lpZ,lpS,lgT,lgZ,lgS]
        iterate 2
         refine RG.RunsIf.weak (v:=?_) (by rfl) (by rfl) (fun Z hT => ?_) ?_
         rotate_left
         ·go_simp
          rfl
         simp only [Act.put,lpA,lpZ,lpS,lgT,lgZ,lgS]
        refine RG.RunsIf.weak (v:=.int .i64 a0) (by rfl) (by rfl) (fun Z hT => ?_) ?_
        ·obtain ⟨v0,v1,v2⟩:=cells3R (blk_keep XV.out hT)
         go_simp
        simp only [Act.put,lpA,lpZ,lpS,lgT,lgZ,lgS]
        iterate 2
         refine RG.RunsIf.weak (v:=.bool false) (by rfl) (by rfl) (fun Z hT => ?_) ?_
         ·go_simp
         simp only [Act.put,lpA,lpZ,lpS,lgT,lgZ,lgS]
        iterate 2
         refine RG.RunsIf.weak (v:=?_) (by rfl) (by rfl) (fun Z hT => ?_) ?_
         rotate_left
         ·go_simp
          rfl
         simp only [Act.put,lpA,lpZ,lpS,lgT,lgZ,lgS]
        refine RG.RunsIf.weak (v:=.int .i64 a0) (by rfl) (by rfl) (fun Z hT => ?_) ?_
        ·obtain ⟨v0,v1,v2⟩:=cells3R (blk_keep XV.out hT)
         go_simp
        simp only [Act.put,lpA,lpZ,lpS,lgT,lgZ,lgS]
        refine RG.RunsIf.weak (v:=.agg #[.slice (some ⟨b,off,none⟩) n pc,.slice ra s.rooms.length rc,.int .i64 s.groups,.int .i64 s.locks,.int .i64 s.cells]) (by rfl) (by rfl) (fun Z hT => exec_load_row' 25 _ (by rfl) w.heap.size (by rfl) 25 #[.slice (some ⟨b,off,none⟩) n pc,.slice ra s.rooms.length rc,.int .i64 s.groups,.int .i64 s.locks,.int .i64 s.cells] (0,0) _ (blk_keep XS.out hT) Try.underlying25 rfl (by kernel_rfl)) ?_
        simp only [Act.put,lpA,lpZ,lpS,lgT,lgZ,lgS]
        iterate 3
         refine RG.RunsIf.weak (v:=?_) (by rfl) (by rfl) (fun Z hT => ?_) ?_
         rotate_left
         ·go_simp
          rfl
         simp only [Act.put,lpA,lpZ,lpS,lgT,lgZ,lgS]
        refine RG.RunsIf.weak (v:=.int .u8 (u0.toNat : Int)) (by rfl) (by rfl) (fun Z hT => ?_) ?_
        ·(go_simp) <;> rfl
        simp only [Act.put,lpA,lpZ,lpS,lgT,lgZ,lgS]
        exact RG.RunsIf.nil
       refine RG.wpL_stepw (i:=18) (by kernel_rfl) (by rfl) (by rfl) (fun KX hK => ?_)
       have HK:=TW.hide hK
       clear hK
       go_simp
       refine (HBk.out _ (NBX.out.trans (HTr0c.out.mono NBX.out.size))).mono ?_
       rintro ex1 W1 ⟨rfl,hb⟩
       have HT1 : Hid (Below X.heap.size X W1):=HTr0c.out.trans (hb.mono HTr0c.out.size)
       refine HK.out _ _ HT1.out (fun _ => trivial) ?_
       clear HK KX hb
       try simp only [Act.put,lpA,lpZ,lpS,lgT,lgZ,lgS]
       refine RG.wpL_take (fuel:=0) (a':=?Ar0cx) [19,20,21] (by kernel_rfl) (by kernel_rfl) (fun _ _ _ _ _ h => h) HT1.out (fun _ => trivial) ?rr0cx ?_
       case rr0cx =>
        refine RG.RunsIf.weak (v:=.bool false) (by rfl) (by rfl) (fun Z hT => ?_) ?_
        ·go_simp
        simp only [Act.put,lpA,lpZ,lpS,lgT,lgZ,lgS]
        iterate 2
         refine RG.RunsIf.weak (v:=?_) (by rfl) (by rfl) (fun Z hT => ?_) ?_
         rotate_left
         ·go_simp
          rfl
         simp only [Act.put,lpA,lpZ,lpS,lgT,lgZ,lgS]
        exact RG.RunsIf.nil
       refine RG.wpL_done (by kernel_rfl) ?_ _
       refine NoPanic.normal ?_
       go_wp2
       go_roundw
       case rel => exact ⟨1,by omega,rfl,HT1.out,TW.hide ⟨fun _ => HFIT.out,fun h => by omega,fun h => by omega⟩⟩
       case measure => simp [intOf]
      ·have HNF : Hid (¬ fitM s p (u0.toNat : Int) a0):=fun h => hbd (HFe.out.1 h)
       have k3 : bd ≤ a0:=by omega
       refine wp_region_noPanic ?_
       refine RG.wp_region_L (fun Z => True) (fun Z => Below X.heap.size X Z) [] (by kernel_rfl) ?_
       refine RG.wpL_any fun Yr0d hY => ?_
       have HTr0d : Hid (Below X.heap.size X Yr0d):=by rw [hY];exact below_drewN HX0.out 1
       clear hY
       refine RG.wpL_take (fuel:=4) (a':=?Ar0d) [0,1,2,3,4,5,6,7,8,9,10,11,12,13,14,15,16,17] (by kernel_rfl) (by kernel_rfl) (fun _ _ _ _ _ h => h) HTr0d.out (fun _ => trivial) ?rr0d ?_
       case rr0d =>
        iterate 2
         refine RG.RunsIf.weak (v:=?_) (by rfl) (by rfl) (fun Z hT => ?_) ?_
         rotate_left
         ·go_simp
          rfl
         simp only [Act.put,lpA,lpZ,lpS,lgT,lgZ,lgS]
        refine RG.RunsIf.weak (v:=.int .u8 (u0.toNat : Int)) (by rfl) (by rfl) (fun Z hT => ?_) ?_
        ·(go_simp) <;> rfl
        simp only [Act.put,lpA,lpZ,lpS,lgT,lgZ,lgS]
        iterate 2
         refine RG.RunsIf.weak (v:=.bool true) (by rfl) (by rfl) (fun Z hT => ?_) ?_
         ·go_simp
         simp only [Act.put,lpA,lpZ,lpS,lgT,lgZ,lgS]
        iterate 2
         refine RG.RunsIf.weak (v:=?_) (by rfl) (by rfl) (fun Z hT => ?_) ?_
         rotate_left
         ·go_simp
          rfl
         simp only [Act.put,lpA,lpZ,lpS,lgT,lgZ,lgS]
        refine RG.RunsIf.weak (v:=.int .i64 a0) (by rfl) (by rfl) (fun Z hT => ?_) ?_
        ·obtain ⟨v0,v1,v2⟩:=cells3R (blk_keep XV.out hT)
         go_simp
        simp only [Act.put,lpA,lpZ,lpS,lgT,lgZ,lgS]
        iterate 2
         refine RG.RunsIf.weak (v:=.bool false) (by rfl) (by rfl) (fun Z hT => ?_) ?_
         ·go_simp
         simp only [Act.put,lpA,lpZ,lpS,lgT,lgZ,lgS]
        iterate 2
         refine RG.RunsIf.weak (v:=?_) (by rfl) (by rfl) (fun Z hT => ?_) ?_
         rotate_left
         ·go_simp
          rfl
         simp only [Act.put,lpA,lpZ,lpS,lgT,lgZ,lgS]
        refine RG.RunsIf.weak (v:=.int .i64 a0) (by rfl) (by rfl) (fun Z hT => ?_) ?_
        ·obtain ⟨v0,v1,v2⟩:=cells3R (blk_keep XV.out hT)
         go_simp
        simp only [Act.put,lpA,lpZ,lpS,lgT,lgZ,lgS]
        refine RG.RunsIf.weak (v:=.agg #[.slice (some ⟨b,off,none⟩) n pc,.slice ra s.rooms.length rc,.int .i64 s.groups,.int .i64 s.locks,.int .i64 s.cells]) (by rfl) (by rfl) (fun Z hT => exec_load_row' 25 _ (by rfl) w.heap.size (by rfl) 25 #[.slice (some ⟨b,off,none⟩) n pc,.slice ra s.rooms.length rc,.int .i64 s.groups,.int .i64 s.locks,.int .i64 s.cells] (0,0) _ (blk_keep XS.out hT) Try.underlying25 rfl (by kernel_rfl)) ?_
        simp only [Act.put,lpA,lpZ,lpS,lgT,lgZ,lgS]
        iterate 3
         refine RG.RunsIf.weak (v:=?_) (by rfl) (by rfl) (fun Z hT => ?_) ?_
         rotate_left
         ·go_simp
          rfl
         simp only [Act.put,lpA,lpZ,lpS,lgT,lgZ,lgS]
        refine RG.RunsIf.weak (v:=.int .u8 (u0.toNat : Int)) (by rfl) (by rfl) (fun Z hT => ?_) ?_
        ·(go_simp) <;> rfl
        simp only [Act.put,lpA,lpZ,lpS,lgT,lgZ,lgS]
        exact RG.RunsIf.nil
       refine RG.wpL_stepw (i:=18) (by kernel_rfl) (by rfl) (by rfl) (fun KX hK => ?_)
       have HK:=TW.hide hK
       clear hK
       go_simp
       refine (HBk.out _ (NBX.out.trans (HTr0d.out.mono NBX.out.size))).mono ?_
       rintro ex1 W1 ⟨rfl,hb⟩
       have HT1 : Hid (Below X.heap.size X W1):=HTr0d.out.trans (hb.mono HTr0d.out.size)
       refine HK.out _ _ HT1.out (fun _ => trivial) ?_
       clear HK KX hb
       try simp only [Act.put,lpA,lpZ,lpS,lgT,lgZ,lgS]
       refine RG.wpL_take (fuel:=0) (a':=?Ar0dx) [19,20,21] (by kernel_rfl) (by kernel_rfl) (fun _ _ _ _ _ h => h) HT1.out (fun _ => trivial) ?rr0dx ?_
       case rr0dx =>
        refine RG.RunsIf.weak (v:=.bool true) (by rfl) (by rfl) (fun Z hT => ?_) ?_
        ·go_simp
        simp only [Act.put,lpA,lpZ,lpS,lgT,lgZ,lgS]
        iterate 2
         refine RG.RunsIf.weak (v:=?_) (by rfl) (by rfl) (fun Z hT => ?_) ?_
         rotate_left
         ·go_simp
          rfl
         simp only [Act.put,lpA,lpZ,lpS,lgT,lgZ,lgS]
        exact RG.RunsIf.nil
       refine RG.wpL_done (by kernel_rfl) ?_ _
       refine NoPanic.normal ?_
       go_wp2
       go_ret
       unfold RiP
       refine ⟨false,rfl,⟨fun h => (by cases h),fun h => ?_⟩,NBX.out.trans (HT1.out.mono NBX.out.size)⟩
       rw [HR2.out] at h
       exact absurd h.1 HNF.out
   ·have HX0 : Hid (Below X.heap.size X wr):=hwr
    clear hwr
    go_wp2
    by_cases hx : (u1.toNat : Int) = 120
    ·have k1 : ((u1.toNat : Int) != 120) = false:=by simp [hx]
     have HFIT : Hid (fitM s p (u1.toNat : Int) a1):=.inl hx
     clear hx
     refine wp_region_noPanic ?_
     refine RG.wp_region_L (fun Z => True) (fun Z => Below X.heap.size X Z) [] (by kernel_rfl) ?_
     refine RG.wpL_any fun Yr1a hY => ?_
     have HTr1a : Hid (Below X.heap.size X Yr1a):=by rw [hY];exact below_drewN HX0.out 1
     clear hY
     refine RG.wpL_take (fuel:=0) (a':=?Ar1a) [0,1,2,3,4,5,6,7,8,9,10,11,12,13,14,15,16,17,18,19,20,21] (by kernel_rfl) (by kernel_rfl) (fun _ _ _ _ _ h => h) HTr1a.out (fun _ => trivial) ?rr1a ?_
     case rr1a =>
      iterate 2
       refine RG.RunsIf.weak (v:=?_) (by rfl) (by rfl) (fun Z hT => ?_) ?_
       rotate_left
       ·go_simp
        rfl
       simp only [Act.put,lpA,lpZ,lpS,lgT,lgZ,lgS]
      refine RG.RunsIf.weak (v:=.int .u8 (u1.toNat : Int)) (by rfl) (by rfl) (fun Z hT => ?_) ?_
      ·(go_simp) <;> rfl
      simp only [Act.put,lpA,lpZ,lpS,lgT,lgZ,lgS]
      iterate 2
       refine RG.RunsIf.weak (v:=.bool false) (by rfl) (by rfl) (fun Z hT => ?_) ?_
       ·go_simp
       simp only [Act.put,lpA,lpZ,lpS,lgT,lgZ,lgS]
      iterate 16
       refine RG.RunsIf.skip (by rfl) (by rfl) ?_
       simp only [Act.put,lpA,lpZ,lpS,lgT,lgZ,lgS]
      refine RG.RunsIf.weak (v:=?_) (by rfl) (by rfl) (fun Z hT => ?_) ?_
      rotate_left
      ·go_simp
       rfl
      simp only [Act.put,lpA,lpZ,lpS,lgT,lgZ,lgS]
      exact RG.RunsIf.nil
     refine RG.wpL_done (by kernel_rfl) ?_ _
     refine NoPanic.normal ?_
     go_wp2
     go_roundw
     case rel => exact ⟨2,by omega,rfl,HTr1a.out,TW.hide ⟨fun _ => HQ.out.1 (by omega),fun h => HFIT.out,fun h => by omega⟩⟩
     case measure => simp [intOf]
    ·have k1 : ((u1.toNat : Int) != 120) = true:=by simp [hx]
     by_cases hneg : a1 < 0
     ·have HNF : Hid (¬ fitM s p (u1.toNat : Int) a1):=by
       intro h
       rcases h with h | h
       ·exact hx h
       ·omega
      clear hx
      refine wp_region_noPanic ?_
      refine RG.wp_region_L (fun Z => True) (fun Z => Below X.heap.size X Z) [] (by kernel_rfl) ?_
      refine RG.wpL_any fun Yr1b hY => ?_
      have HTr1b : Hid (Below X.heap.size X Yr1b):=by rw [hY];exact below_drewN HX0.out 1
      clear hY
      refine RG.wpL_take (fuel:=0) (a':=?Ar1b) [0,1,2,3,4,5,6,7,8,9,10,11,12,13,14,15,16,17,18,19,20,21] (by kernel_rfl) (by kernel_rfl) (fun _ _ _ _ _ h => h) HTr1b.out (fun _ => trivial) ?rr1b ?_
      case rr1b =>
       iterate 2
        refine RG.RunsIf.weak (v:=?_) (by rfl) (by rfl) (fun Z hT => ?_) ?_
        rotate_left
        ·go_simp
         rfl
        simp only [Act.put,lpA,lpZ,lpS,lgT,lgZ,lgS]
       refine RG.RunsIf.weak (v:=.int .u8 (u1.toNat : Int)) (by rfl) (by rfl) (fun Z hT => ?_) ?_
       ·(go_simp) <;> rfl
       simp only [Act.put,lpA,lpZ,lpS,lgT,lgZ,lgS]
       iterate 2
        refine RG.RunsIf.weak (v:=.bool true) (by rfl) (by rfl) (fun Z hT => ?_) ?_
        ·go_simp
        simp only [Act.put,lpA,lpZ,lpS,lgT,lgZ,lgS]
       iterate 2
        refine RG.RunsIf.weak (v:=?_) (by rfl) (by rfl) (fun Z hT => ?_) ?_
        rotate_left
        ·go_simp
         rfl
        simp only [Act.put,lpA,lpZ,lpS,lgT,lgZ,lgS]
       refine RG.RunsIf.weak (v:=.int .i64 a1) (by rfl) (by rfl) (fun Z hT => ?_) ?_
       ·obtain ⟨v0,v1,v2⟩:=cells3R (blk_keep XV.out hT)
        go_simp
       simp only [Act.put,lpA,lpZ,lpS,lgT,lgZ,lgS]
       iterate 2
        refine RG.RunsIf.weak (v:=.bool true) (by rfl) (by rfl) (fun Z hT => ?_) ?_
        ·go_simp
        simp only [Act.put,lpA,lpZ,lpS,lgT,lgZ,lgS]
       iterate 10
        refine RG.RunsIf.skip (by rfl) (by rfl) ?_
        simp only [Act.put,lpA,lpZ,lpS,lgT,lgZ,lgS]
       iterate 2
        refine RG.RunsIf.weak (v:=?_) (by rfl) (by rfl) (fun Z hT => ?_) ?_
        rotate_left
        ·go_simp
         rfl
        simp only [Act.put,lpA,lpZ,lpS,lgT,lgZ,lgS]
       exact RG.RunsIf.nil
      refine RG.wpL_done (by kernel_rfl) ?_ _
      refine NoPanic.normal ?_
      go_wp2
      go_ret
      unfold RiP
      refine ⟨false,rfl,⟨fun h => (by cases h),fun h => ?_⟩,NBX.out.trans (HTr1b.out.mono NBX.out.size)⟩
      rw [HR2.out] at h
      exact absurd h.2.1 HNF.out
     ·have HBk:=TW.hide (HBo.out (u1.toNat : Int))
      have HFe : Hid (fitM s p (u1.toNat : Int) a1 ↔ a1 < bdM s p (u1.toNat : Int)):=by
       constructor
       ·rintro (h | h)
        ·exact absurd h hx
        ·exact h.2
       ·intro h
        exact .inr ⟨by omega,h⟩
      generalize bdM s p (u1.toNat : Int) = bd at *
      clear hx
      by_cases hbd : a1 < bd
      ·have HFIT : Hid (fitM s p (u1.toNat : Int) a1):=HFe.out.2 hbd
       have k3 : ¬ bd ≤ a1:=by omega
       refine wp_region_noPanic ?_
       refine RG.wp_region_L (fun Z => True) (fun Z => Below X.heap.size X Z) [] (by kernel_rfl) ?_
       refine RG.wpL_any fun Yr1c hY => ?_
       have HTr1c : Hid (Below X.heap.size X Yr1c):=by rw [hY];exact below_drewN HX0.out 1
       clear hY
       refine RG.wpL_take (fuel:=4) (a':=?Ar1c) [0,1,2,3,4,5,6,7,8,9,10,11,12,13,14,15,16,17] (by kernel_rfl) (by kernel_rfl) (fun _ _ _ _ _ h => h) HTr1c.out (fun _ => trivial) ?rr1c ?_
       case rr1c =>
        iterate 2
         refine RG.RunsIf.weak (v:=?_) (by rfl) (by rfl) (fun Z hT => ?_) ?_
         rotate_left
         ·go_simp
          rfl
         simp only [Act.put,lpA,lpZ,lpS,lgT,lgZ,lgS]
        refine RG.RunsIf.weak (v:=.int .u8 (u1.toNat : Int)) (by rfl) (by rfl) (fun Z hT => ?_) ?_
        ·(go_simp) <;> rfl
        simp only [Act.put,lpA,lpZ,lpS,lgT,lgZ,lgS]
        iterate 2
         refine RG.RunsIf.weak (v:=.bool true) (by rfl) (by rfl) (fun Z hT => ?_) ?_
         ·go_simp
         simp only [Act.put,lpA,lpZ,lpS,lgT,lgZ,lgS]
        iterate 2
         refine RG.RunsIf.weak (v:=?_) (by rfl) (by rfl) (fun Z hT => ?_) ?_
         rotate_left
         ·go_simp
          rfl
         simp only [Act.put,lpA,lpZ,lpS,lgT,lgZ,lgS]
        refine RG.RunsIf.weak (v:=.int .i64 a1) (by rfl) (by rfl) (fun Z hT => ?_) ?_
        ·obtain ⟨v0,v1,v2⟩:=cells3R (blk_keep XV.out hT)
         go_simp
        simp only [Act.put,lpA,lpZ,lpS,lgT,lgZ,lgS]
        iterate 2
         refine RG.RunsIf.weak (v:=.bool false) (by rfl) (by rfl) (fun Z hT => ?_) ?_
         ·go_simp
         simp only [Act.put,lpA,lpZ,lpS,lgT,lgZ,lgS]
        iterate 2
         refine RG.RunsIf.weak (v:=?_) (by rfl) (by rfl) (fun Z hT => ?_) ?_
         rotate_left
         ·go_simp
          rfl
         simp only [Act.put,lpA,lpZ,lpS,lgT,lgZ,lgS]
        refine RG.RunsIf.weak (v:=.int .i64 a1) (by rfl) (by rfl) (fun Z hT => ?_) ?_
        ·obtain ⟨v0,v1,v2⟩:=cells3R (blk_keep XV.out hT)
         go_simp
        simp only [Act.put,lpA,lpZ,lpS,lgT,lgZ,lgS]
        refine RG.RunsIf.weak (v:=.agg #[.slice (some ⟨b,off,none⟩) n pc,.slice ra s.rooms.length rc,.int .i64 s.groups,.int .i64 s.locks,.int .i64 s.cells]) (by rfl) (by rfl) (fun Z hT => exec_load_row' 25 _ (by rfl) w.heap.size (by rfl) 25 #[.slice (some ⟨b,off,none⟩) n pc,.slice ra s.rooms.length rc,.int .i64 s.groups,.int .i64 s.locks,.int .i64 s.cells] (0,0) _ (blk_keep XS.out hT) Try.underlying25 rfl (by kernel_rfl)) ?_
        simp only [Act.put,lpA,lpZ,lpS,lgT,lgZ,lgS]
        iterate 3
         refine RG.RunsIf.weak (v:=?_) (by rfl) (by rfl) (fun Z hT => ?_) ?_
         rotate_left
         ·go_simp
          rfl
         simp only [Act.put,lpA,lpZ,lpS,lgT,lgZ,lgS]
        refine RG.RunsIf.weak (v:=.int .u8 (u1.toNat : Int)) (by rfl) (by rfl) (fun Z hT => ?_) ?_
        ·(go_simp) <;> rfl
        simp only [Act.put,lpA,lpZ,lpS,lgT,lgZ,lgS]
        exact RG.RunsIf.nil
       refine RG.wpL_stepw (i:=18) (by kernel_rfl) (by rfl) (by rfl) (fun KX hK => ?_)
       have HK:=TW.hide hK
       clear hK
       go_simp
       refine (HBk.out _ (NBX.out.trans (HTr1c.out.mono NBX.out.size))).mono ?_
       rintro ex1 W1 ⟨rfl,hb⟩
       have HT1 : Hid (Below X.heap.size X W1):=HTr1c.out.trans (hb.mono HTr1c.out.size)
       refine HK.out _ _ HT1.out (fun _ => trivial) ?_
       clear HK KX hb
       try simp only [Act.put,lpA,lpZ,lpS,lgT,lgZ,lgS]
       refine RG.wpL_take (fuel:=0) (a':=?Ar1cx) [19,20,21] (by kernel_rfl) (by kernel_rfl) (fun _ _ _ _ _ h => h) HT1.out (fun _ => trivial) ?rr1cx ?_
       case rr1cx =>
        refine RG.RunsIf.weak (v:=.bool false) (by rfl) (by rfl) (fun Z hT => ?_) ?_
        ·go_simp
        simp only [Act.put,lpA,lpZ,lpS,lgT,lgZ,lgS]
        iterate 2
         refine RG.RunsIf.weak (v:=?_) (by rfl) (by rfl) (fun Z hT => ?_) ?_
         rotate_left
         ·go_simp
          rfl
         simp only [Act.put,lpA,lpZ,lpS,lgT,lgZ,lgS]
        exact RG.RunsIf.nil
       refine RG.wpL_done (by kernel_rfl) ?_ _
       refine NoPanic.normal ?_
       go_wp2
       go_roundw
       case rel => exact ⟨2,by omega,rfl,HT1.out,TW.hide ⟨fun _ => HQ.out.1 (by omega),fun h => HFIT.out,fun h => by omega⟩⟩
       case measure => simp [intOf]
      ·have HNF : Hid (¬ fitM s p (u1.toNat : Int) a1):=fun h => hbd (HFe.out.1 h)
       have k3 : bd ≤ a1:=by omega
       refine wp_region_noPanic ?_
       refine RG.wp_region_L (fun Z => True) (fun Z => Below X.heap.size X Z) [] (by kernel_rfl) ?_
       refine RG.wpL_any fun Yr1d hY => ?_
       have HTr1d : Hid (Below X.heap.size X Yr1d):=by rw [hY];exact below_drewN HX0.out 1
       clear hY
       refine RG.wpL_take (fuel:=4) (a':=?Ar1d) [0,1,2,3,4,5,6,7,8,9,10,11,12,13,14,15,16,17] (by kernel_rfl) (by kernel_rfl) (fun _ _ _ _ _ h => h) HTr1d.out (fun _ => trivial) ?rr1d ?_
       case rr1d =>
        iterate 2
         refine RG.RunsIf.weak (v:=?_) (by rfl) (by rfl) (fun Z hT => ?_) ?_
         rotate_left
         ·go_simp
          rfl
         simp only [Act.put,lpA,lpZ,lpS,lgT,lgZ,lgS]
        refine RG.RunsIf.weak (v:=.int .u8 (u1.toNat : Int)) (by rfl) (by rfl) (fun Z hT => ?_) ?_
        ·(go_simp) <;> rfl
        simp only [Act.put,lpA,lpZ,lpS,lgT,lgZ,lgS]
        iterate 2
         refine RG.RunsIf.weak (v:=.bool true) (by rfl) (by rfl) (fun Z hT => ?_) ?_
         ·go_simp
         simp only [Act.put,lpA,lpZ,lpS,lgT,lgZ,lgS]
        iterate 2
         refine RG.RunsIf.weak (v:=?_) (by rfl) (by rfl) (fun Z hT => ?_) ?_
         rotate_left
         ·go_simp
          rfl
         simp only [Act.put,lpA,lpZ,lpS,lgT,lgZ,lgS]
        refine RG.RunsIf.weak (v:=.int .i64 a1) (by rfl) (by rfl) (fun Z hT => ?_) ?_
        ·obtain ⟨v0,v1,v2⟩:=cells3R (blk_keep XV.out hT)
         go_simp
        simp only [Act.put,lpA,lpZ,lpS,lgT,lgZ,lgS]
        iterate 2
         refine RG.RunsIf.weak (v:=.bool false) (by rfl) (by rfl) (fun Z hT => ?_) ?_
         ·go_simp
         simp only [Act.put,lpA,lpZ,lpS,lgT,lgZ,lgS]
        iterate 2
         refine RG.RunsIf.weak (v:=?_) (by rfl) (by rfl) (fun Z hT => ?_) ?_
         rotate_left
         ·go_simp
          rfl
         simp only [Act.put,lpA,lpZ,lpS,lgT,lgZ,lgS]
        refine RG.RunsIf.weak (v:=.int .i64 a1) (by rfl) (by rfl) (fun Z hT => ?_) ?_
        ·obtain ⟨v0,v1,v2⟩:=cells3R (blk_keep XV.out hT)
         go_simp
        simp only [Act.put,lpA,lpZ,lpS,lgT,lgZ,lgS]
        refine RG.RunsIf.weak (v:=.agg #[.slice (some ⟨b,off,none⟩) n pc,.slice ra s.rooms.length rc,.int .i64 s.groups,.int .i64 s.locks,.int .i64 s.cells]) (by rfl) (by rfl) (fun Z hT => exec_load_row' 25 _ (by rfl) w.heap.size (by rfl) 25 #[.slice (some ⟨b,off,none⟩) n pc,.slice ra s.rooms.length rc,.int .i64 s.groups,.int .i64 s.locks,.int .i64 s.cells] (0,0) _ (blk_keep XS.out hT) Try.underlying25 rfl (by kernel_rfl)) ?_
        simp only [Act.put,lpA,lpZ,lpS,lgT,lgZ,lgS]
        iterate 3
         refine RG.RunsIf.weak (v:=?_) (by rfl) (by rfl) (fun Z hT => ?_) ?_
         rotate_left
         ·go_simp
          rfl
         simp only [Act.put,lpA,lpZ,lpS,lgT,lgZ,lgS]
        refine RG.RunsIf.weak (v:=.int .u8 (u1.toNat : Int)) (by rfl) (by rfl) (fun Z hT => ?_) ?_
        ·(go_simp) <;> rfl
        simp only [Act.put,lpA,lpZ,lpS,lgT,lgZ,lgS]
        exact RG.RunsIf.nil
       refine RG.wpL_stepw (i:=18) (by kernel_rfl) (by rfl) (by rfl) (fun KX hK => ?_)
       have HK:=TW.hide hK
       clear hK
       go_simp
       refine (HBk.out _ (NBX.out.trans (HTr1d.out.mono NBX.out.size))).mono ?_
       rintro ex1 W1 ⟨rfl,hb⟩
       have HT1 : Hid (Below X.heap.size X W1):=HTr1d.out.trans (hb.mono HTr1d.out.size)
       refine HK.out _ _ HT1.out (fun _ => trivial) ?_
       clear HK KX hb
       try simp only [Act.put,lpA,lpZ,lpS,lgT,lgZ,lgS]
       refine RG.wpL_take (fuel:=0) (a':=?Ar1dx) [19,20,21] (by kernel_rfl) (by kernel_rfl) (fun _ _ _ _ _ h => h) HT1.out (fun _ => trivial) ?rr1dx ?_
       case rr1dx =>
        refine RG.RunsIf.weak (v:=.bool true) (by rfl) (by rfl) (fun Z hT => ?_) ?_
        ·go_simp
        simp only [Act.put,lpA,lpZ,lpS,lgT,lgZ,lgS]
        iterate 2
         refine RG.RunsIf.weak (v:=?_) (by rfl) (by rfl) (fun Z hT => ?_) ?_
         rotate_left
         ·go_simp
          rfl
         simp only [Act.put,lpA,lpZ,lpS,lgT,lgZ,lgS]
        exact RG.RunsIf.nil
       refine RG.wpL_done (by kernel_rfl) ?_ _
       refine NoPanic.normal ?_
       go_wp2
       go_ret
       unfold RiP
       refine ⟨false,rfl,⟨fun h => (by cases h),fun h => ?_⟩,NBX.out.trans (HT1.out.mono NBX.out.size)⟩
       rw [HR2.out] at h
       exact absurd h.2.1 HNF.out
   ·have HX0 : Hid (Below X.heap.size X wr):=hwr
    clear hwr
    go_wp2
    by_cases hx : (u2.toNat : Int) = 120
    ·have k1 : ((u2.toNat : Int) != 120) = false:=by simp [hx]
     have HFIT : Hid (fitM s p (u2.toNat : Int) a2):=.inl hx
     clear hx
     refine wp_region_noPanic ?_
     refine RG.wp_region_L (fun Z => True) (fun Z => Below X.heap.size X Z) [] (by kernel_rfl) ?_
     refine RG.wpL_any fun Yr2a hY => ?_
     have HTr2a : Hid (Below X.heap.size X Yr2a):=by rw [hY];exact below_drewN HX0.out 1
     clear hY
     refine RG.wpL_take (fuel:=0) (a':=?Ar2a) [0,1,2,3,4,5,6,7,8,9,10,11,12,13,14,15,16,17,18,19,20,21] (by kernel_rfl) (by kernel_rfl) (fun _ _ _ _ _ h => h) HTr2a.out (fun _ => trivial) ?rr2a ?_
     case rr2a =>
      iterate 2
       refine RG.RunsIf.weak (v:=?_) (by rfl) (by rfl) (fun Z hT => ?_) ?_
       rotate_left
       ·go_simp
        rfl
       simp only [Act.put,lpA,lpZ,lpS,lgT,lgZ,lgS]
      refine RG.RunsIf.weak (v:=.int .u8 (u2.toNat : Int)) (by rfl) (by rfl) (fun Z hT => ?_) ?_
      ·(go_simp) <;> rfl
      simp only [Act.put,lpA,lpZ,lpS,lgT,lgZ,lgS]
      iterate 2
       refine RG.RunsIf.weak (v:=.bool false) (by rfl) (by rfl) (fun Z hT => ?_) ?_
       ·go_simp
       simp only [Act.put,lpA,lpZ,lpS,lgT,lgZ,lgS]
      iterate 16
       refine RG.RunsIf.skip (by rfl) (by rfl) ?_
       simp only [Act.put,lpA,lpZ,lpS,lgT,lgZ,lgS]
      refine RG.RunsIf.weak (v:=?_) (by rfl) (by rfl) (fun Z hT => ?_) ?_
      rotate_left
      ·go_simp
       rfl
      simp only [Act.put,lpA,lpZ,lpS,lgT,lgZ,lgS]
      exact RG.RunsIf.nil
     refine RG.wpL_done (by kernel_rfl) ?_ _
     refine NoPanic.normal ?_
     go_wp2
     go_roundw
     case rel => exact ⟨3,by omega,rfl,HTr2a.out,TW.hide ⟨fun _ => HQ.out.1 (by omega),fun h => HQ.out.2.1 (by omega),fun h => HFIT.out⟩⟩
     case measure => simp [intOf]
    ·have k1 : ((u2.toNat : Int) != 120) = true:=by simp [hx]
     by_cases hneg : a2 < 0
     ·have HNF : Hid (¬ fitM s p (u2.toNat : Int) a2):=by
       intro h
       rcases h with h | h
       ·exact hx h
       ·omega
      clear hx
      refine wp_region_noPanic ?_
      refine RG.wp_region_L (fun Z => True) (fun Z => Below X.heap.size X Z) [] (by kernel_rfl) ?_
      refine RG.wpL_any fun Yr2b hY => ?_
      have HTr2b : Hid (Below X.heap.size X Yr2b):=by rw [hY];exact below_drewN HX0.out 1
      clear hY
      refine RG.wpL_take (fuel:=0) (a':=?Ar2b) [0,1,2,3,4,5,6,7,8,9,10,11,12,13,14,15,16,17,18,19,20,21] (by kernel_rfl) (by kernel_rfl) (fun _ _ _ _ _ h => h) HTr2b.out (fun _ => trivial) ?rr2b ?_
      case rr2b =>
       iterate 2
        refine RG.RunsIf.weak (v:=?_) (by rfl) (by rfl) (fun Z hT => ?_) ?_
        rotate_left
        ·go_simp
         rfl
        simp only [Act.put,lpA,lpZ,lpS,lgT,lgZ,lgS]
       refine RG.RunsIf.weak (v:=.int .u8 (u2.toNat : Int)) (by rfl) (by rfl) (fun Z hT => ?_) ?_
       ·(go_simp) <;> rfl
       simp only [Act.put,lpA,lpZ,lpS,lgT,lgZ,lgS]
       iterate 2
        refine RG.RunsIf.weak (v:=.bool true) (by rfl) (by rfl) (fun Z hT => ?_) ?_
        ·go_simp
        simp only [Act.put,lpA,lpZ,lpS,lgT,lgZ,lgS]
       iterate 2
        refine RG.RunsIf.weak (v:=?_) (by rfl) (by rfl) (fun Z hT => ?_) ?_
        rotate_left
        ·go_simp
         rfl
        simp only [Act.put,lpA,lpZ,lpS,lgT,lgZ,lgS]
       refine RG.RunsIf.weak (v:=.int .i64 a2) (by rfl) (by rfl) (fun Z hT => ?_) ?_
       ·obtain ⟨v0,v1,v2⟩:=cells3R (blk_keep XV.out hT)
        go_simp
       simp only [Act.put,lpA,lpZ,lpS,lgT,lgZ,lgS]
       iterate 2
        refine RG.RunsIf.weak (v:=.bool true) (by rfl) (by rfl) (fun Z hT => ?_) ?_
        ·go_simp
        simp only [Act.put,lpA,lpZ,lpS,lgT,lgZ,lgS]
       iterate 10
        refine RG.RunsIf.skip (by rfl) (by rfl) ?_
        simp only [Act.put,lpA,lpZ,lpS,lgT,lgZ,lgS]
       iterate 2
        refine RG.RunsIf.weak (v:=?_) (by rfl) (by rfl) (fun Z hT => ?_) ?_
        rotate_left
        ·go_simp
         rfl
        simp only [Act.put,lpA,lpZ,lpS,lgT,lgZ,lgS]
       exact RG.RunsIf.nil
      refine RG.wpL_done (by kernel_rfl) ?_ _
      refine NoPanic.normal ?_
      go_wp2
      go_ret
      unfold RiP
      refine ⟨false,rfl,⟨fun h => (by cases h),fun h => ?_⟩,NBX.out.trans (HTr2b.out.mono NBX.out.size)⟩
      rw [HR2.out] at h
      exact absurd h.2.2.1 HNF.out
     ·have HBk:=TW.hide (HBo.out (u2.toNat : Int))
      have HFe : Hid (fitM s p (u2.toNat : Int) a2 ↔ a2 < bdM s p (u2.toNat : Int)):=by
       constructor
       ·rintro (h | h)
        ·exact absurd h hx
        ·exact h.2
       ·intro h
        exact .inr ⟨by omega,h⟩
      generalize bdM s p (u2.toNat : Int) = bd at *
      clear hx
      by_cases hbd : a2 < bd
      ·have HFIT : Hid (fitM s p (u2.toNat : Int) a2):=HFe.out.2 hbd
       have k3 : ¬ bd ≤ a2:=by omega
       refine wp_region_noPanic ?_
       refine RG.wp_region_L (fun Z => True) (fun Z => Below X.heap.size X Z) [] (by kernel_rfl) ?_
       refine RG.wpL_any fun Yr2c hY => ?_
       have HTr2c : Hid (Below X.heap.size X Yr2c):=by rw [hY];exact below_drewN HX0.out 1
       clear hY
       refine RG.wpL_take (fuel:=4) (a':=?Ar2c) [0,1,2,3,4,5,6,7,8,9,10,11,12,13,14,15,16,17] (by kernel_rfl) (by kernel_rfl) (fun _ _ _ _ _ h => h) HTr2c.out (fun _ => trivial) ?rr2c ?_
       case rr2c =>
        iterate 2
         refine RG.RunsIf.weak (v:=?_) (by rfl) (by rfl) (fun Z hT => ?_) ?_
         rotate_left
         ·go_simp
          rfl
         simp only [Act.put,lpA,lpZ,lpS,lgT,lgZ,lgS]
        refine RG.RunsIf.weak (v:=.int .u8 (u2.toNat : Int)) (by rfl) (by rfl) (fun Z hT => ?_) ?_
        ·(go_simp) <;> rfl
        simp only [Act.put,lpA,lpZ,lpS,lgT,lgZ,lgS]
        iterate 2
         refine RG.RunsIf.weak (v:=.bool true) (by rfl) (by rfl) (fun Z hT => ?_) ?_
         ·go_simp
         simp only [Act.put,lpA,lpZ,lpS,lgT,lgZ,lgS]
        iterate 2
         refine RG.RunsIf.weak (v:=?_) (by rfl) (by rfl) (fun Z hT => ?_) ?_
         rotate_left
         ·go_simp
          rfl
         simp only [Act.put,lpA,lpZ,lpS,lgT,lgZ,lgS]
        refine RG.RunsIf.weak (v:=.int .i64 a2) (by rfl) (by rfl) (fun Z hT => ?_) ?_
        ·obtain ⟨v0,v1,v2⟩:=cells3R (blk_keep XV.out hT)
         go_simp
        simp only [Act.put,lpA,lpZ,lpS,lgT,lgZ,lgS]
        iterate 2
         refine RG.RunsIf.weak (v:=.bool false) (by rfl) (by rfl) (fun Z hT => ?_) ?_
         ·go_simp
         simp only [Act.put,lpA,lpZ,lpS,lgT,lgZ,lgS]
        iterate 2
         refine RG.RunsIf.weak (v:=?_) (by rfl) (by rfl) (fun Z hT => ?_) ?_
         rotate_left
         ·go_simp
          rfl
         simp only [Act.put,lpA,lpZ,lpS,lgT,lgZ,lgS]
        refine RG.RunsIf.weak (v:=.int .i64 a2) (by rfl) (by rfl) (fun Z hT => ?_) ?_
        ·obtain ⟨v0,v1,v2⟩:=cells3R (blk_keep XV.out hT)
         go_simp
        simp only [Act.put,lpA,lpZ,lpS,lgT,lgZ,lgS]
        refine RG.RunsIf.weak (v:=.agg #[.slice (some ⟨b,off,none⟩) n pc,.slice ra s.rooms.length rc,.int .i64 s.groups,.int .i64 s.locks,.int .i64 s.cells]) (by rfl) (by rfl) (fun Z hT => exec_load_row' 25 _ (by rfl) w.heap.size (by rfl) 25 #[.slice (some ⟨b,off,none⟩) n pc,.slice ra s.rooms.length rc,.int .i64 s.groups,.int .i64 s.locks,.int .i64 s.cells] (0,0) _ (blk_keep XS.out hT) Try.underlying25 rfl (by kernel_rfl)) ?_
        simp only [Act.put,lpA,lpZ,lpS,lgT,lgZ,lgS]
        iterate 3
         refine RG.RunsIf.weak (v:=?_) (by rfl) (by rfl) (fun Z hT => ?_) ?_
         rotate_left
         ·go_simp
          rfl
         simp only [Act.put,lpA,lpZ,lpS,lgT,lgZ,lgS]
        refine RG.RunsIf.weak (v:=.int .u8 (u2.toNat : Int)) (by rfl) (by rfl) (fun Z hT => ?_) ?_
        ·(go_simp) <;> rfl
        simp only [Act.put,lpA,lpZ,lpS,lgT,lgZ,lgS]
        exact RG.RunsIf.nil
       refine RG.wpL_stepw (i:=18) (by kernel_rfl) (by rfl) (by rfl) (fun KX hK => ?_)
       have HK:=TW.hide hK
       clear hK
       go_simp
       refine (HBk.out _ (NBX.out.trans (HTr2c.out.mono NBX.out.size))).mono ?_
       rintro ex1 W1 ⟨rfl,hb⟩
       have HT1 : Hid (Below X.heap.size X W1):=HTr2c.out.trans (hb.mono HTr2c.out.size)
       refine HK.out _ _ HT1.out (fun _ => trivial) ?_
       clear HK KX hb
       try simp only [Act.put,lpA,lpZ,lpS,lgT,lgZ,lgS]
       refine RG.wpL_take (fuel:=0) (a':=?Ar2cx) [19,20,21] (by kernel_rfl) (by kernel_rfl) (fun _ _ _ _ _ h => h) HT1.out (fun _ => trivial) ?rr2cx ?_
       case rr2cx =>
        refine RG.RunsIf.weak (v:=.bool false) (by rfl) (by rfl) (fun Z hT => ?_) ?_
        ·go_simp
        simp only [Act.put,lpA,lpZ,lpS,lgT,lgZ,lgS]
        iterate 2
         refine RG.RunsIf.weak (v:=?_) (by rfl) (by rfl) (fun Z hT => ?_) ?_
         rotate_left
         ·go_simp
          rfl
         simp only [Act.put,lpA,lpZ,lpS,lgT,lgZ,lgS]
        exact RG.RunsIf.nil
       refine RG.wpL_done (by kernel_rfl) ?_ _
       refine NoPanic.normal ?_
       go_wp2
       go_roundw
       case rel => exact ⟨3,by omega,rfl,HT1.out,TW.hide ⟨fun _ => HQ.out.1 (by omega),fun h => HQ.out.2.1 (by omega),fun h => HFIT.out⟩⟩
       case measure => simp [intOf]
      ·have HNF : Hid (¬ fitM s p (u2.toNat : Int) a2):=fun h => hbd (HFe.out.1 h)
       have k3 : bd ≤ a2:=by omega
       refine wp_region_noPanic ?_
       refine RG.wp_region_L (fun Z => True) (fun Z => Below X.heap.size X Z) [] (by kernel_rfl) ?_
       refine RG.wpL_any fun Yr2d hY => ?_
       have HTr2d : Hid (Below X.heap.size X Yr2d):=by rw [hY];exact below_drewN HX0.out 1
       clear hY
       refine RG.wpL_take (fuel:=4) (a':=?Ar2d) [0,1,2,3,4,5,6,7,8,9,10,11,12,13,14,15,16,17] (by kernel_rfl) (by kernel_rfl) (fun _ _ _ _ _ h => h) HTr2d.out (fun _ => trivial) ?rr2d ?_
       case rr2d =>
        iterate 2
         refine RG.RunsIf.weak (v:=?_) (by rfl) (by rfl) (fun Z hT => ?_) ?_
         rotate_left
         ·go_simp
          rfl
         simp only [Act.put,lpA,lpZ,lpS,lgT,lgZ,lgS]
        refine RG.RunsIf.weak (v:=.int .u8 (u2.toNat : Int)) (by rfl) (by rfl) (fun Z hT => ?_) ?_
        ·(go_simp) <;> rfl
        simp only [Act.put,lpA,lpZ,lpS,lgT,lgZ,lgS]
        iterate 2
         refine RG.RunsIf.weak (v:=.bool true) (by rfl) (by rfl) (fun Z hT => ?_) ?_
         ·go_simp
         simp only [Act.put,lpA,lpZ,lpS,lgT,lgZ,lgS]
        iterate 2
         refine RG.RunsIf.weak (v:=?_) (by rfl) (by rfl) (fun Z hT => ?_) ?_
         rotate_left
         ·go_simp
          rfl
         simp only [Act.put,lpA,lpZ,lpS,lgT,lgZ,lgS]
        refine RG.RunsIf.weak (v:=.int .i64 a2) (by rfl) (by rfl) (fun Z hT => ?_) ?_
        ·obtain ⟨v0,v1,v2⟩:=cells3R (blk_keep XV.out hT)
         go_simp
        simp only [Act.put,lpA,lpZ,lpS,lgT,lgZ,lgS]
        iterate 2
         refine RG.RunsIf.weak (v:=.bool false) (by rfl) (by rfl) (fun Z hT => ?_) ?_
         ·go_simp
         simp only [Act.put,lpA,lpZ,lpS,lgT,lgZ,lgS]
        iterate 2
         refine RG.RunsIf.weak (v:=?_) (by rfl) (by rfl) (fun Z hT => ?_) ?_
         rotate_left
         ·go_simp
          rfl
         simp only [Act.put,lpA,lpZ,lpS,lgT,lgZ,lgS]
        refine RG.RunsIf.weak (v:=.int .i64 a2) (by rfl) (by rfl) (fun Z hT => ?_) ?_
        ·obtain ⟨v0,v1,v2⟩:=cells3R (blk_keep XV.out hT)
         go_simp
        simp only [Act.put,lpA,lpZ,lpS,lgT,lgZ,lgS]
        refine RG.RunsIf.weak (v:=.agg #[.slice (some ⟨b,off,none⟩) n pc,.slice ra s.rooms.length rc,.int .i64 s.groups,.int .i64 s.locks,.int .i64 s.cells]) (by rfl) (by rfl) (fun Z hT => exec_load_row' 25 _ (by rfl) w.heap.size (by rfl) 25 #[.slice (some ⟨b,off,none⟩) n pc,.slice ra s.rooms.length rc,.int .i64 s.groups,.int .i64 s.locks,.int .i64 s.cells] (0,0) _ (blk_keep XS.out hT) Try.underlying25 rfl (by kernel_rfl)) ?_
        simp only [Act.put,lpA,lpZ,lpS,lgT,lgZ,lgS]
        iterate 3
         refine RG.RunsIf.weak (v:=?_) (by rfl) (by rfl) (fun Z hT => ?_) ?_
         rotate_left
         ·go_simp
          rfl
         simp only [Act.put,lpA,lpZ,lpS,lgT,lgZ,lgS]
        refine RG.RunsIf.weak (v:=.int .u8 (u2.toNat : Int)) (by rfl) (by rfl) (fun Z hT => ?_) ?_
        ·(go_simp) <;> rfl
        simp only [Act.put,lpA,lpZ,lpS,lgT,lgZ,lgS]
        exact RG.RunsIf.nil
       refine RG.wpL_stepw (i:=18) (by kernel_rfl) (by rfl) (by rfl) (fun KX hK => ?_)
       have HK:=TW.hide hK
       clear hK
       go_simp
       refine (HBk.out _ (NBX.out.trans (HTr2d.out.mono NBX.out.size))).mono ?_
       rintro ex1 W1 ⟨rfl,hb⟩
       have HT1 : Hid (Below X.heap.size X W1):=HTr2d.out.trans (hb.mono HTr2d.out.size)
       refine HK.out _ _ HT1.out (fun _ => trivial) ?_
       clear HK KX hb
       try simp only [Act.put,lpA,lpZ,lpS,lgT,lgZ,lgS]
       refine RG.wpL_take (fuel:=0) (a':=?Ar2dx) [19,20,21] (by kernel_rfl) (by kernel_rfl) (fun _ _ _ _ _ h => h) HT1.out (fun _ => trivial) ?rr2dx ?_
       case rr2dx =>
        refine RG.RunsIf.weak (v:=.bool true) (by rfl) (by rfl) (fun Z hT => ?_) ?_
        ·go_simp
        simp only [Act.put,lpA,lpZ,lpS,lgT,lgZ,lgS]
        iterate 2
         refine RG.RunsIf.weak (v:=?_) (by rfl) (by rfl) (fun Z hT => ?_) ?_
         rotate_left
         ·go_simp
          rfl
         simp only [Act.put,lpA,lpZ,lpS,lgT,lgZ,lgS]
        exact RG.RunsIf.nil
       refine RG.wpL_done (by kernel_rfl) ?_ _
       refine NoPanic.normal ?_
       go_wp2
       go_ret
       unfold RiP
       refine ⟨false,rfl,⟨fun h => (by cases h),fun h => ?_⟩,NBX.out.trans (HT1.out.mono NBX.out.size)⟩
       rw [HR2.out] at h
       exact absurd h.2.2.1 HNF.out
   ·have NB2 : Hid (Below w.heap.size w wr):=NBX.out.trans (hwr.mono NBX.out.size)
    have HI:=TW.hide (blk_keep XI.out hwr)
    have HS:=TW.hide (blk_keep XS.out hwr)
    clear hwr
    obtain ⟨i1,i2,i3,i4⟩:=cellsY4 HI.out
    obtain ⟨y0,y1,y2,y3,y4⟩:=cellsY5 HS.out
    have HR3 : Hid (R ↔ (op ≠ 12 ∧ op ≠ 13) ∨ 0 < s.cells):=by
     show _ ↔ _
     rw [HR2.out]
     constructor
     ·rintro ⟨_,_,_,h⟩
      by_cases h12 : op = 12 ∨ op = 13
      ·exact .inr (h h12)
      ·exact .inl (by omega)
     ·intro h
      exact ⟨HQ.out.1 (by omega),HQ.out.2.1 (by omega),HQ.out.2.2 (by omega),fun h2 => by omega⟩
    clear HR2
    by_cases h12 : op = 12
    ·have k1 : (op != 12) = false:=by simp [h12]
     by_cases hce : 0 < s.cells
     ·clear h12
      go_wp2
      refine HK0.out _ _ ?_
      go_wp2
      go_ret
      unfold RiP
      exact ⟨true,rfl,⟨fun _ => HR3.out.2 (.inr hce),fun _ => rfl⟩,NB2.out⟩
     ·have HNo : Hid (¬ R):=by
       intro hr
       have:=HR3.out.1 hr
       omega
      clear h12
      have HD : Hid (decide (0 < s.cells) = false):=by show _ = _;simp [hce]
      clear hce
      go_wp2
      refine HK0.out _ _ ?_
      go_wp2
      go_ret
      unfold RiP
      exact ⟨decide (0 < s.cells),rfl,⟨fun h => (by rw [HD.out] at h;cases h),fun h => absurd h HNo.out⟩,NB2.out⟩
    ·have k1 : (op != 12) = true:=by simp [h12]
     by_cases h13 : op = 13
     ·have k2 : (op != 13) = false:=by simp [h13]
      by_cases hce : 0 < s.cells
      ·clear h12 h13
       go_wp2
       refine HK0.out _ _ ?_
       go_wp2
       go_ret
       unfold RiP
       exact ⟨true,rfl,⟨fun _ => HR3.out.2 (.inr hce),fun _ => rfl⟩,NB2.out⟩
      ·have HNo : Hid (¬ R):=by
        intro hr
        have:=HR3.out.1 hr
        omega
       clear h12 h13
       have HD : Hid (decide (0 < s.cells) = false):=by show _ = _;simp [hce]
       clear hce
       go_wp2
       refine HK0.out _ _ ?_
       go_wp2
       go_ret
       unfold RiP
       exact ⟨decide (0 < s.cells),rfl,⟨fun h => (by rw [HD.out] at h;cases h),fun h => absurd h HNo.out⟩,NB2.out⟩
     ·have k2 : (op != 13) = true:=by simp [h13]
      have HYes : Hid R:=HR3.out.2 (.inl ⟨h12,h13⟩)
      clear h12 h13
      go_wp2
      refine HK0.out _ _ ?_
      go_wp2
      go_ret
      unfold RiP
      exact ⟨true,rfl,⟨fun _ => HYes.out,fun _ => rfl⟩,NB2.out⟩
 ·have hF : fdT op = ⟨#[]⟩:=by unfold fdT;rw [if_pos (by omega)]
  rw [hF]
  have HNo : Hid (¬ R):=by
   intro hr
   rw [HR.out] at hr
   exact hop ⟨hr.1,hr.2.1⟩
  clear HR hF hop
  go_wp2
  go_ret
  unfold RiP
  exact ⟨false,rfl,⟨fun h => (by cases h),fun h => absurd h HNo.out⟩,NB.out⟩
end LW
end Go.Proofs.Ythcndgnpmefefaa
namespace Go.Proofs.Ythcndgnpmefefaa
open List renaming setIfInBounds_toArray → lpA,set_cons_zero → lpZ,set_cons_succ → lpS,getElem_toArray → lgT,getElem_cons_zero → lgZ,getElem_cons_succ → lgS
open Go.RowKit
namespace LW
open Mc
theorem keepC {V W : World} (hb : Below V.heap.size V W) {p o : Nat} {u : Value} (h : V.cell? ⟨p,o,none⟩ = some u) : W.cell? ⟨p,o,none⟩ = some u:=by
 rw [hb.cell (lt_of_cell h)];exact h
set_option maxRecDepth 100000 in
set_option maxHeartbeats 4000000 in
theorem rvalid13 (s : Syst) (pa : Option Addr) (pc : Nat) (ra : Option Addr) (rc n r : Nat) (w : World) (hS : SM w s pa ra) (hn : s.progs.length = n) (hr : s.rooms.length = r) (hn1 : n ≤ 9223372036854775807) (hr1 : r ≤ 9223372036854775807) (hl : ∀ p,(s.progs.getD p []).length ≤ 9223372036854775807) :
  Calls Try.prog 38 #[.agg #[.slice pa n pc,.slice ra r rc,.int .i64 s.groups,.int .i64 s.locks,.int .i64 s.cells]] w (RiP (Ok s) w):=by
 have n0:=heap_alloc_new w (.cells #[.slice pa n pc,.slice ra r rc,.int .i64 s.groups,.int .i64 s.locks,.int .i64 s.cells] 25)
 have hb0:=(Below.refl w.heap.size w).alloc (Nat.le_refl _) (.cells #[.slice pa n pc,.slice ra r rc,.int .i64 s.groups,.int .i64 s.locks,.int .i64 s.cells] 25)
 have XS:=TW.hide n0
 have NB:=TW.hide hb0
 have HM:=TW.hide (hS.below hb0)
 have HM0:=TW.hide hS
 obtain ⟨Z,hZ⟩ : ∃ Z,Z = Ok s:=⟨_,rfl⟩
 have HZ:=TW.hide hZ
 rw [← hZ]
 have HN:=TW.hide hn
 have HRn:=TW.hide hr
 have HL:=TW.hide hl
 clear n0 hb0 hS hZ hn hr hl
 go_enter Try.func38,Try.ntmps38
 refine wp_seq_k fun K hK => ?_
 have HK:=TW.hide hK
 clear hK
 go_wp2_with fail
 refine HK.out _ _ ?_
 clear HK K
 generalize w.alloc _ = X at *
 obtain ⟨y0,y1,y2,y3,y4⟩:=cellsY5 XS.out
 by_cases q1 : n < 1
 ·have k1 : (n : Int) < 1:=by omega
  have HNo : Hid (¬ Z):=by
   intro hz
   rw [HZ.out] at hz
   have:=hz.p1;have:=HN.out;omega
  go_wp2
  go_ret
  unfold RiP
  exact ⟨false,rfl,⟨fun h => (by cases h),fun h => absurd h HNo.out⟩,NB.out⟩
 have k1 : ¬ (n : Int) < 1:=by omega
 by_cases q2 : 64 < n
 ·have k2 : (64 : Int) < (n : Int):=by omega
  have HNo : Hid (¬ Z):=by
   intro hz
   rw [HZ.out] at hz
   have:=hz.p2;have:=HN.out;omega
  go_wp2
  go_ret
  unfold RiP
  exact ⟨false,rfl,⟨fun h => (by cases h),fun h => absurd h HNo.out⟩,NB.out⟩
 have k2 : ¬ (64 : Int) < (n : Int):=by omega
 by_cases q3 : 64 < r
 ·have k3 : (64 : Int) < (r : Int):=by omega
  have HNo : Hid (¬ Z):=by
   intro hz
   rw [HZ.out] at hz
   have:=hz.r1;have:=HRn.out;omega
  go_wp2
  go_ret
  unfold RiP
  exact ⟨false,rfl,⟨fun h => (by cases h),fun h => absurd h HNo.out⟩,NB.out⟩
 have k3 : ¬ (64 : Int) < (r : Int):=by omega
 refine wp_seq_k fun K hK => ?_
 have HK:=TW.hide hK
 clear hK
 go_wp2
 refine HK.out _ _ ?_
 clear HK K
 clear k1 k2 k3
 by_cases m0 : s.groups < 0
 ·have HNo : Hid (¬ Z):=by
   intro hz
   rw [HZ.out] at hz
   have:=hz.g1;omega
  go_wp2
  go_ret
  unfold RiP
  exact ⟨false,rfl,⟨fun h => (by cases h),fun h => absurd h HNo.out⟩,NB.out⟩
 by_cases m1 : 64 < s.groups
 ·have HNo : Hid (¬ Z):=by
   intro hz
   rw [HZ.out] at hz
   have:=hz.g1;omega
  go_wp2
  go_ret
  unfold RiP
  exact ⟨false,rfl,⟨fun h => (by cases h),fun h => absurd h HNo.out⟩,NB.out⟩
 by_cases m2 : s.locks < 0
 ·have HNo : Hid (¬ Z):=by
   intro hz
   rw [HZ.out] at hz
   have:=hz.l1;omega
  go_wp2
  go_ret
  unfold RiP
  exact ⟨false,rfl,⟨fun h => (by cases h),fun h => absurd h HNo.out⟩,NB.out⟩
 by_cases m3 : 64 < s.locks
 ·have HNo : Hid (¬ Z):=by
   intro hz
   rw [HZ.out] at hz
   have:=hz.l1;omega
  go_wp2
  go_ret
  unfold RiP
  exact ⟨false,rfl,⟨fun h => (by cases h),fun h => absurd h HNo.out⟩,NB.out⟩
 by_cases m4 : s.cells < 0
 ·have HNo : Hid (¬ Z):=by
   intro hz
   rw [HZ.out] at hz
   have:=hz.c1;omega
  go_wp2
  go_ret
  unfold RiP
  exact ⟨false,rfl,⟨fun h => (by cases h),fun h => absurd h HNo.out⟩,NB.out⟩
 by_cases m5 : 64 < s.cells
 ·have HNo : Hid (¬ Z):=by
   intro hz
   rw [HZ.out] at hz
   have:=hz.c1;omega
  go_wp2
  go_ret
  unfold RiP
  exact ⟨false,rfl,⟨fun h => (by cases h),fun h => absurd h HNo.out⟩,NB.out⟩
 refine wp_seq_k fun K hK => ?_
 have HK:=TW.hide hK
 clear hK
 go_wp2
 refine HK.out _ _ ?_
 clear HK K
 refine wp_seq_k fun K hK => ?_
 have HK:=TW.hide hK
 clear hK
 go_wp2
 go_loopw [3] (fun i wr => ∃ k : Nat,k ≤ r ∧ i = .int .i64 (k : Int) ∧ Hid (∀ q,q < k → 1 ≤ s.rooms.getD q 0 ∧ s.rooms.getD q 0 ≤ 1024) ∧ wr = X) (fun i wr => r - (intOf i).toNat)
 case atStart => exact ⟨0,Nat.zero_le _,rfl,TW.hide (fun q hq => by omega),rfl⟩
 case round =>
  obtain ⟨k,hk,rfl,HQ,hwX⟩:=hrel
  by_cases hlt : k < r
  ·have hk1 : (k : Int) < (r : Int):=by omega
   have hk0 : (0 : Int) ≤ (k : Int):=by omega
   obtain ⟨b,off,rfl,hrc⟩ : ∃ b off,ra = some ⟨b,off,none⟩ ∧ X.cell? ⟨b,off + k,none⟩ = some (.int .i64 (s.rooms.getD k 0)):=by
    rcases HM.out.rm with h | ⟨b,off,e,hc⟩
    ·exfalso;have:=HRn.out;rw [h] at this;simp at this;omega
    ·exact ⟨b,off,e,hc k (by rw [HRn.out];exact hlt)⟩
   have HRm : Hid (Z → 1 ≤ s.rooms.getD k 0 ∧ s.rooms.getD k 0 ≤ 1024):=fun hz => by
    rw [HZ.out] at hz
    exact hz.rm k (by rw [HRn.out];exact hlt)
   have HKK:=TW.hide hlt
   subst hwX
   generalize hrv : s.rooms.getD k 0 = v at *
   have HRV:=TW.hide hrv
   clear hlt hrv
   by_cases v1 : v < 1
   ·have HNo : Hid (¬ Z):=fun hz => by have:=HRm.out hz;omega
    go_wp2
    go_ret
    unfold RiP
    exact ⟨false,rfl,⟨fun h => (by cases h),fun h => absurd h HNo.out⟩,NB.out⟩
   ·by_cases v2 : 1024 < v
    ·have HNo : Hid (¬ Z):=fun hz => by have:=HRm.out hz;omega
     go_wp2
     go_ret
     unfold RiP
     exact ⟨false,rfl,⟨fun h => (by cases h),fun h => absurd h HNo.out⟩,NB.out⟩
    ·go_wp2
     go_roundw
     case rel =>
      refine ⟨k + 1,HKK.out,by go_num,TW.hide (fun q hq => ?_),by trivial⟩
      rcases Nat.lt_or_ge q k with h | h
      ·exact HQ.out q h
      ·obtain rfl : q = k:=by omega
       rw [HRV.out];omega
     case measure => simp [intOf];have:=HKK.out;omega
  ·have hkr : r = k:=by omega
   subst hkr
   have hXw : X = wr:=hwX.symm
   clear hwX
   subst hXw
   have HQR:=TW.hide HQ.out
   clear HQ
   go_wp2
   refine HK.out _ _ ?_
   clear HK
   refine wp_seq_k fun K hK => ?_
   have HK:=TW.hide hK
   clear hK
   go_wp2
   go_loopw [4,5] (fun p i w2 => ∃ p' : Nat,p' ≤ n ∧ p = .int .i64 (p' : Int) ∧ Hid (Below X.heap.size X w2) ∧ Hid (∀ q,q < p' → (s.progs.getD q []).length ≤ 256 ∧ ∀ j,j < (s.progs.getD q []).length → rightM s q ((s.progs.getD q []).getD j i0))) (fun p i w2 => n - (intOf p).toNat)
   case atStart => exact ⟨0,Nat.zero_le _,rfl,TW.hide (Below.refl _ _),TW.hide (fun q hq => by omega)⟩
   case round =>
    obtain ⟨p,hp,rfl,HX1,HQ0⟩:=hrel
    have NBp : Hid (Below w.heap.size w wr):=NB.out.trans (HX1.out.mono NB.out.size)
    by_cases hlp : p < n
    ·have hp1 : (p : Int) < (n : Int):=by omega
     have hp0 : (0 : Int) ≤ (p : Int):=by omega
     obtain ⟨b,off,rfl,A,KA,hpc,hir⟩ : ∃ b off,pa = some ⟨b,off,none⟩ ∧ ∃ A KA,X.cell? ⟨b,off + p,none⟩ = some (.slice A (s.progs.getD p []).length KA) ∧ IR X A (s.progs.getD p []):=by
      rcases HM.out.pr with h | ⟨b,off,e,hc⟩
      ·exfalso;have:=HN.out;rw [h] at this;simp at this;omega
      ·obtain ⟨A,K,h1,h2⟩:=hc p (by rw [HN.out];exact hlp)
       exact ⟨b,off,e,A,K,h1,h2⟩
     have HRt0 : Hid ((s.progs.getD p []).length ≤ 256 → ∀ (j : Nat) (W : World),Below w.heap.size w W → Calls Try.prog 61 #[.agg #[.slice (some ⟨b,off,none⟩) n pc,.slice ra r rc,.int .i64 s.groups,.int .i64 s.locks,.int .i64 s.cells],.int .i64 p,.agg #[.int .i64 ((s.progs.getD p []).getD j i0).op,.int .i64 ((s.progs.getD p []).getD j i0).a,.int .i64 ((s.progs.getD p []).getD j i0).b,.int .i64 ((s.progs.getD p []).getD j i0).c]] W (RiP (rightM s p ((s.progs.getD p []).getD j i0)) W))   := fun h256 j W hW => by
      have:=rright s b off pc ra rc p n ((s.progs.getD p []).getD j i0).op ((s.progs.getD p []).getD j i0).a ((s.progs.getD p []).getD j i0).b ((s.progs.getD p []).getD j i0).c W (HM0.out.below hW) HN.out hlp (by omega)
      rw [HRn.out] at this
      exact this
     have HIn : Hid (∀ j,j < (s.progs.getD p []).length → ∃ b2 off2,A = some ⟨b2,off2,none⟩ ∧ X.cell? ⟨b2,off2 + j * 4,none⟩ = some (.int .i64 ((s.progs.getD p []).getD j i0).op) ∧ X.cell? ⟨b2,off2 + j * 4 + 1,none⟩ = some (.int .i64 ((s.progs.getD p []).getD j i0).a) ∧ X.cell? ⟨b2,off2 + j * 4 + 2,none⟩ = some (.int .i64 ((s.progs.getD p []).getD j i0).b) ∧ X.cell? ⟨b2,off2 + j * 4 + 3,none⟩ = some (.int .i64 ((s.progs.getD p []).getD j i0).c)):=by
      intro j hj
      rcases hir with h | ⟨b2,off2,e,hc⟩
      ·rw [h] at hj;simp at hj
      ·exact ⟨b2,off2,e,hc j hj⟩
     obtain ⟨pl,hpl⟩ : ∃ pl,(s.progs.getD p []).length = pl:=⟨_,rfl⟩
     have HPL:=TW.hide hpl
     rw [hpl] at hpc HIn
     have HLP:=TW.hide hlp
     clear hir hpl hlp hp
     have y0:=(cellsY5 (blk_keep XS.out HX1.out)).1
     have z0:=keepC HX1.out hpc
     by_cases q9 : 256 < pl
     ·have k9 : (256 : Int) < (pl : Int):=by omega
      have HNo : Hid (¬ Z):=by
       intro hz
       rw [HZ.out] at hz
       have:=hz.pl p (by rw [HN.out];exact HLP.out);have:=HPL.out;omega
      go_wp2
      go_ret
      unfold RiP
      exact ⟨false,rfl,⟨fun h => (by cases h),fun h => absurd h HNo.out⟩,NBp.out⟩
     have k9 : ¬ (256 : Int) < (pl : Int):=by omega
     have HRt:=TW.hide (HRt0.out (by rw [HPL.out];omega))
     clear HRt0
     go_wp2
     clear y0 z0
     go_loopw [5] (fun i wr => ∃ j : Nat,j ≤ pl ∧ i = .int .i64 (j : Int) ∧ Hid (Below X.heap.size X wr) ∧ Hid (∀ q,q < j → rightM s p ((s.progs.getD p []).getD q i0))) (fun i wr => pl - (intOf i).toNat)
     case atStart => exact ⟨0,Nat.zero_le _,rfl,HX1,TW.hide (fun q hq => by omega)⟩
     case round =>
      obtain ⟨j,hj,rfl,HX0,HQ⟩:=hrel
      have NBr : Hid (Below w.heap.size w wr):=NB.out.trans (HX0.out.mono NB.out.size)
      by_cases hlt : j < pl
      ·have hj1 : (j : Int) < (pl : Int):=by omega
       have hj0 : (0 : Int) ≤ (j : Int):=by omega
       obtain ⟨b2,off2,rfl,x0,x1,x2,x3⟩:=HIn.out j hlt
       have HRi:=TW.hide (fun W hW => HRt.out j W hW)
       have HZr : Hid (Z → rightM s p ((s.progs.getD p []).getD j i0)):=fun hz => by
        rw [HZ.out] at hz
        exact hz.rt p (by rw [HN.out];exact HLP.out) j (by rw [HPL.out];exact hlt)
       have HLJ:=TW.hide hlt
       have y0:=(cellsY5 (blk_keep XS.out HX0.out)).1
       have z0:=keepC HX0.out hpc
       clear hlt
       generalize ((s.progs.getD p []).getD j i0).op = op at *
       generalize ((s.progs.getD p []).getD j i0).a = a0 at *
       generalize ((s.progs.getD p []).getD j i0).b = a1 at *
       generalize ((s.progs.getD p []).getD j i0).c = a2 at *
       go_wp2
       clear y0 z0
       refine wp_region_noPanic ?_
       refine RG.wp_region_L (fun Z => True) (fun Z => Below X.heap.size X Z) [] (by kernel_rfl) ?_
       refine RG.wpL_any fun Yg hY => ?_
       have HTg : Hid (Below X.heap.size X Yg):=by rw [hY];exact below_drewN HX0.out 1
       clear hY
       refine RG.wpL_take (fuel:=2) (a':=?Ag) [0,1,2,3,4,5,6,7,8,9] (by kernel_rfl) (by kernel_rfl) (fun _ _ _ _ _ h => h) HTg.out (fun _ => trivial) ?rg ?_
       case rg =>
        refine RG.RunsIf.weak (v:=.agg #[.slice (some ⟨b,off,none⟩) n pc,.slice ra r rc,.int .i64 s.groups,.int .i64 s.locks,.int .i64 s.cells]) (by rfl) (by rfl) (fun Z hT => exec_load_row' 25 _ (by rfl) w.heap.size (by rfl) 25 #[.slice (some ⟨b,off,none⟩) n pc,.slice ra r rc,.int .i64 s.groups,.int .i64 s.locks,.int .i64 s.cells] (0,0) _ (blk_keep XS.out hT) Try.underlying25 rfl (by kernel_rfl)) ?_
        simp only [Act.put,lpA,lpZ,lpS,lgT,lgZ,lgS]
        iterate 2
         refine RG.RunsIf.weak (v:=?_) (by rfl) (by rfl) (fun Z hT => ?_) ?_
         rotate_left
         ·go_simp
          rfl
         simp only [Act.put,lpA,lpZ,lpS,lgT,lgZ,lgS]
        refine RG.RunsIf.weak (v:=.slice (some ⟨b,off,none⟩) n pc) (by rfl) (by rfl) (fun Z hT => ?_) ?_
        ·have y0:=(cellsY5 (blk_keep XS.out hT)).1
         go_simp
        simp only [Act.put,lpA,lpZ,lpS,lgT,lgZ,lgS]
        iterate 2
         refine RG.RunsIf.weak (v:=?_) (by rfl) (by rfl) (fun Z hT => ?_) ?_
         rotate_left
         ·go_simp
          rfl
         simp only [Act.put,lpA,lpZ,lpS,lgT,lgZ,lgS]
        refine RG.RunsIf.weak (v:=.slice (some ⟨b2,off2,none⟩) pl KA) (by rfl) (by rfl) (fun Z hT => ?_) ?_
        ·have y0:=keepC hT hpc
         go_simp
        simp only [Act.put,lpA,lpZ,lpS,lgT,lgZ,lgS]
        iterate 2
         refine RG.RunsIf.weak (v:=?_) (by rfl) (by rfl) (fun Z hT => ?_) ?_
         rotate_left
         ·go_simp
          rfl
         simp only [Act.put,lpA,lpZ,lpS,lgT,lgZ,lgS]
        refine RG.RunsIf.weak (v:=.agg #[.int .i64 op,.int .i64 a0,.int .i64 a1,.int .i64 a2]) (by rfl) (by rfl) (fun Z hT => ?_) ?_
        ·have z0:=keepC hT x0;have z1:=keepC hT x1;have z2:=keepC hT x2;have z3:=keepC hT x3
         go_simp
        simp only [Act.put,lpA,lpZ,lpS,lgT,lgZ,lgS]
        exact RG.RunsIf.nil
       refine RG.wpL_step (i:=10) (by kernel_rfl) (by rfl) (by rfl) (fun KX hK => ?_)
       have HK:=TW.hide hK
       clear hK
       go_simp
       refine (HRi.out _ (NB.out.trans (HTg.out.mono NB.out.size))).mono ?_
       rintro ex1 W1 ⟨xb,rfl,hxb,hb⟩
       have HT1 : Hid (Below X.heap.size X W1):=HTg.out.trans (hb.mono HTg.out.size)
       have NB1 : Hid (Below w.heap.size w W1):=NB.out.trans (HT1.out.mono NB.out.size)
       have HXB:=TW.hide hxb
       refine HK.out _ _ HT1.out (fun _ => trivial) ?_
       clear HK KX hb hxb
       try simp only [Act.put,lpA,lpZ,lpS,lgT,lgZ,lgS]
       refine RG.wpL_take (fuel:=0) (a':=?Agx) [11] (by kernel_rfl) (by kernel_rfl) (fun _ _ _ _ _ h => h) HT1.out (fun _ => trivial) ?rgx ?_
       case rgx =>
        refine RG.RunsIf.weak (v:=?_) (by rfl) (by rfl) (fun Z hT => ?_) ?_
        rotate_left
        ·go_simp
         rfl
        simp only [Act.put,lpA,lpZ,lpS,lgT,lgZ,lgS]
        exact RG.RunsIf.nil
       refine RG.wpL_done (by kernel_rfl) ?_ _
       refine NoPanic.normal ?_
       cases xb with
       | true =>
        go_wp2
        go_roundw
        case rel =>
         refine ⟨j + 1,HLJ.out,by go_num,HT1,TW.hide (fun q hq => ?_)⟩
         rcases Nat.lt_or_ge q j with h | h
         ·exact HQ.out q h
         ·obtain rfl : q = j:=by omega
          exact HXB.out.1 (by trivial)
        case measure => simp [intOf];have:=HLJ.out;omega
       | false =>
        have HNo : Hid (¬ Z):=fun hz => by
         have:=HXB.out.2 (HZr.out hz)
         simp at this
        go_wp2
        go_ret
        unfold RiP
        exact ⟨false,rfl,⟨fun h => (by cases h),fun h => absurd h HNo.out⟩,NB1.out⟩
      ·have hjp : pl = j:=by omega
       subst hjp
       have y0:=(cellsY5 (blk_keep XS.out HX0.out)).1
       have z0:=keepC HX0.out hpc
       go_wp2
       refine ⟨⟨p + 1,HLP.out,by go_num,HX0,TW.hide (fun q hq => ?_)⟩,by simp [intOf];have:=HLP.out;omega⟩
       rcases Nat.lt_or_ge q p with h | h
       ·exact HQ0.out q h
       ·obtain rfl : q = p:=by omega
        exact ⟨by rw [HPL.out];omega,fun x hx => HQ.out x (by rw [HPL.out] at hx;exact hx)⟩
    ·have hpn : n = p:=by omega
     subst hpn
     have y0:=(cellsY5 (blk_keep XS.out HX1.out)).1
     have HYes : Hid Z:=by
      show Z
      rw [HZ.out]
      have e1:=HN.out
      have e2:=HRn.out
      exact ⟨by omega,by omega,by omega,by omega,by omega,by omega,fun i hi => HQR.out i (by omega),fun q hq => (HQ0.out q (by omega)).1,fun q hq => (HQ0.out q (by omega)).2⟩
     go_wp2
     refine HK.out _ _ ?_
     go_wp2
     go_ret
     unfold RiP
     exact ⟨true,rfl,⟨fun _ => HYes.out,fun _ => rfl⟩,NBp.out⟩
end LW
end Go.Proofs.Ythcndgnpmefefaa
