/-
 How the program's machine begins.
-/
import Derived.Test.YtfbnakmmmphedaaPgFgo
import Derived.Test.YtfbnakmmmphedaaOrd3o
import Derived.Test.YtfbnakmmmphedaaPairo
import Derived.Test.YtfbnakmmmphedaaArgs13o
set_option linter.unusedVariables false
set_option linter.unusedSimpArgs false
namespace Go.Proofs.Ytfbnakmmmphedaa
open Go.RowKit
namespace LW
open Mc
theorem wp_make_full {P : Program} (w : World) {o : Oper} {a : Act} {K : Act → World → Prop} {Q : Exit → Act → World → Prop}
  (l c : Operand) (t : TypeId) (hop : o.op = Op.makeSlice t l c)
  (base : Nat) (e : TypeId) (i : TypeInfo) (z : Value) (size : Nat) (h1 : P.underlying t = some (.slice e)) (h2 : P.info? e = some i) (h3 : i.zero = some z) (h4 : i.size = size)
  (kl kc : IntKind) (L C : Int) (n : Nat) (hl : a.eval l = .int kl L) (hc : a.eval c = .int kc C) (hL : L = (n : Int)) (hC : C = (n : Int)) (b2 : i.bytes * n ≤ 281474976710656) (b3 : n ≤ maxLen) (b4 : base ≤ w.heap.size)
  (hK : ∀ w',w'.ownsRow base e size (.slice (some ⟨w.heap.size,0,none⟩) n n) n (madeCells z.cells (n * size)).toList → w.grownBy w' none → K (a.put o.dst (.slice (some ⟨w.heap.size,0,none⟩) n n)) w') :
  o.wp P a w K Q:=by
 obtain ⟨w',hrun,r1,r2⟩:=run_make_full (P:=P) w base t e i z size h1 h2 h3 h4 kl kc n b2 b3 b4
 subst hL
 subst hC
 unfold Oper.wp
 simp [execOp,hop,hl,hc,hrun,Result.andThen]
 exact hK w' r1 r2
theorem made_rep (z : Value) (hz : z.cells = #[z]) (n : Nat) : (madeCells z.cells (n * 1)).toList = List.replicate n z:=by
 rw [hz]
 simp [madeCells,Nat.mod_one,List.map_const']
theorem boolinfo : (Try.prog.info? 4).map (fun i => (i.zero,i.size,i.bytes)) = some (some (.bool false),1,1):=by kernel_rfl
theorem chinfo : (Try.prog.info? 71).map (fun i => (i.zero,i.size,i.bytes)) = some (some (.agg #[.int .i64 0,.slice none 0 0,.bool false]),3,40):=by kernel_rfl
structure BM (w W : World) (gm bG bL bC : Nat) (s : Syst) (pa : Option Addr) (pc : Nat) (hv rv : Value) (gn ln cn : Nat) : Prop where
 bl : Below w.heap.size w W
 gB : w.heap.size ≤ gm
 blk : W.heap[gm]? = some (.cells #[.slice pa s.progs.length pc,rv,hv,.slice (some ⟨bG,0,none⟩) gn gn,.slice (some ⟨bL,0,none⟩) ln ln,.slice (some ⟨bC,0,none⟩) cn cn,.slice none 0 0,.slice none 0 0] 55 (0,0))
 grp : W.ownsRow w.heap.size 3 1 (.slice (some ⟨bG,0,none⟩) gn gn) gn (List.replicate gn (.int .i64 0))
 lck : W.ownsRow w.heap.size 4 1 (.slice (some ⟨bL,0,none⟩) ln ln) ln (List.replicate ln (.bool false))
 cel : W.ownsRow w.heap.size 3 1 (.slice (some ⟨bC,0,none⟩) cn cn) cn (List.replicate cn (.int .i64 0))
 ne : bG ≠ bC
theorem BM.below {w W W' : World} {gm bG bL bC : Nat} {s : Syst} {pa : Option Addr} {pc : Nat} {hv rv : Value} {gn ln cn : Nat} (h : BM w W gm bG bL bC s pa pc hv rv gn ln cn) (hb : Below W.heap.size W W') : BM w W' gm bG bL bC s pa pc hv rv gn ln cn :=
 ⟨h.bl.trans (hb.mono h.bl.size),h.gB,blk_keep h.blk hb,own_belowI h.grp hb,own_belowI h.lck hb,own_belowI h.cel hb,h.ne⟩
def chP (s : Syst) (k : Nat) : List Value:=flC 3 chV ((List.range k).map fun c => ⟨s.rooms.getD c 0,.slice none 0 0,false⟩)
theorem chP_more (s : Syst) (k : Nat) : chP s (k + 1) = chP s k ++ [.int .i64 (s.rooms.getD k 0),.slice none 0 0,.bool false]:=by
 unfold chP
 rw [List.range_succ,List.map_append,flC_append]
 rfl
theorem begin_pm {w wr : World} {gm bG bL bC gn ln cn : Nat} {s : Syst} {pc : Nat} {ha : Option Addr} {hcp k : Nat} (pb po : Nat) (hpr : ∀ p,p < s.progs.length → ∃ A K,w.cell? ⟨pb,po + p,none⟩ = some (.slice A (s.progs.getD p []).length K) ∧ IR w A (s.progs.getD p [])) (ho : Mc.Ok s) (hB : BM w wr gm bG bL bC s (some ⟨pb,po,none⟩) pc (.slice ha k hcp) (.slice none 0 0) gn ln cn) (hO : wr.ownsRow w.heap.size 71 3 (.slice ha k hcp) k (chP s k)) (hk : s.rooms.length = k) (hgn : s.groups = (gn : Int)) (hln : s.locks = (ln : Int)) (hcn : s.cells = (cn : Int)) (A : Option Addr) (KA : Nat) (h0 : w.cell? ⟨pb,po + 0,none⟩ = some (.slice A (s.progs.getD 0 []).length KA)) :
  PM w (((wr.alloc (.cells #[.slice A (s.progs.getD 0 []).length KA,.int .i64 0,.int .i64 0,.int .i64 0,.int .i64 0,.int .i64 0,.int .i64 0,.int .i64 0,.int .i64 0,.int .i64 0] 75)).alloc (.cells #[.pointer (some ⟨wr.heap.size,0,none⟩)] 72)).setCell ⟨gm,1,none⟩ (.slice (some ⟨wr.heap.size + 1,0,none⟩) 1 1)) gm s (some ⟨pb,po,none⟩) pc (Mc.first s) { rv:=.slice (some ⟨wr.heap.size + 1,0,none⟩) 1 1,hv:=.slice ha k hcp,gv:=.slice (some ⟨bG,0,none⟩) gn gn,lv:=.slice (some ⟨bL,0,none⟩) ln ln,cv:=.slice (some ⟨bC,0,none⟩) cn cn,ev:=.slice none 0 0,nv:=.slice none 0 0,nn:=[],ps:=[wr.heap.size],qs:=List.replicate k (.slice none 0 0),iv:=fun p => (w.cell? ⟨pb,po + p,none⟩).getD undef,gb:=none,gx:=0,ge:=none,gy:=0 }:=by
 have hA : Below wr.heap.size wr ((wr.alloc (.cells #[.slice A (s.progs.getD 0 []).length KA,.int .i64 0,.int .i64 0,.int .i64 0,.int .i64 0,.int .i64 0,.int .i64 0,.int .i64 0,.int .i64 0,.int .i64 0] 75)).alloc (.cells #[.pointer (some ⟨wr.heap.size,0,none⟩)] 72)):=((Below.refl _ _).alloc (Nat.le_refl _) _).alloc (by simp) _
 have hB2:=hB.below hA
 have hO2:=own_belowI hO hA
 have hsz:=hB.bl.size
 have nR : ((wr.alloc (.cells #[.slice A (s.progs.getD 0 []).length KA,.int .i64 0,.int .i64 0,.int .i64 0,.int .i64 0,.int .i64 0,.int .i64 0,.int .i64 0,.int .i64 0,.int .i64 0] 75)).alloc (.cells #[.pointer (some ⟨wr.heap.size,0,none⟩)] 72)).heap[wr.heap.size]? = some (.cells #[.slice A (s.progs.getD 0 []).length KA,.int .i64 0,.int .i64 0,.int .i64 0,.int .i64 0,.int .i64 0,.int .i64 0,.int .i64 0,.int .i64 0,.int .i64 0] 75 (0,0)):=blk_alloc (heap_alloc_new wr _)
 have nQ : ((wr.alloc (.cells #[.slice A (s.progs.getD 0 []).length KA,.int .i64 0,.int .i64 0,.int .i64 0,.int .i64 0,.int .i64 0,.int .i64 0,.int .i64 0,.int .i64 0,.int .i64 0] 75)).alloc (.cells #[.pointer (some ⟨wr.heap.size,0,none⟩)] 72)).heap[wr.heap.size + 1]? = some (.cells #[.pointer (some ⟨wr.heap.size,0,none⟩)] 72 (0,0)):=by
  have h1:=heap_alloc_new (wr.alloc (.cells #[.slice A (s.progs.getD 0 []).length KA,.int .i64 0,.int .i64 0,.int .i64 0,.int .i64 0,.int .i64 0,.int .i64 0,.int .i64 0,.int .i64 0,.int .i64 0] 75)) (.cells #[.pointer (some ⟨wr.heap.size,0,none⟩)] 72)
  have h2 : (wr.alloc (.cells #[.slice A (s.progs.getD 0 []).length KA,.int .i64 0,.int .i64 0,.int .i64 0,.int .i64 0,.int .i64 0,.int .i64 0,.int .i64 0,.int .i64 0,.int .i64 0] 75)).heap.size = wr.heap.size + 1:=by simp
  rw [h2] at h1;exact h1
 generalize World.alloc _ _ = Z at *
 have hbk:=hB2.blk
 have hql : ∀ c,qn (List.replicate k (.slice none 0 0)) c = .slice none 0 0:=fun c => by
  unfold qn;exact getD_rep k c _
 refine ⟨hB2.bl.setCell (p:=⟨gm,1,none⟩) hB2.gB _,⟨pb,po,rfl,fun p hp => ?_⟩,hB2.gB,blk_set (i:=1) (u:=.slice (some ⟨wr.heap.size + 1,0,none⟩) 1 1) hbk,own_setN ⟨rfl,.inr ⟨wr.heap.size + 1,1,_,rfl,by omega,nQ,Nat.le_refl _,by unfold maxLen;omega,rfl,rfl⟩⟩ hbk (by decide),fun j hj => ?_,fun j hj => ?_,fun i j hi hj _ => ?_,?_,fun c hc => ?_,⟨?_,fun c b hc => ?_⟩,?_,?_,?_,⟨rfl,.inl ⟨rfl,rfl⟩⟩,⟨rfl,.inl ⟨rfl,rfl⟩⟩,fun p hp => (by cases hp),fun p hp => (by cases hp),fun i j b hi hj => ?_⟩
 ·obtain ⟨A',K',e,hi⟩:=hpr p hp
  exact ⟨A',K',by show (w.cell? _).getD undef = _;rw [e];rfl,by show _ = some ((w.cell? _).getD undef);rw [e];rfl,hi⟩
 ·obtain rfl : j = 0:=by
   have : j < 1:=hj
   omega
  have e : rpC s (fun p => (w.cell? ⟨pb,po + p,none⟩).getD undef) (Mc.rn (Mc.first s) 0) = #[.slice A (s.progs.getD 0 []).length KA,.int .i64 0,.int .i64 0,.int .i64 0,.int .i64 0,.int .i64 0,.int .i64 0,.int .i64 0,.int .i64 0,.int .i64 0]:=by
   show rpC s _ ⟨0,0,List.replicate 8 0,(pg s 0).isEmpty⟩ = _
   unfold rpC;have ha0 : aT s ⟨0,0,List.replicate 8 0,(pg s 0).isEmpty⟩ = 0:=aT_new s 0 _
   rw [ha0];show #[(w.cell? ⟨pb,po + 0,none⟩).getD undef,_,_,_,_,_,_,_,_,_] = _
   rw [h0];rfl
  rw [e];exact blk_setN nR hbk (by decide)
 ·obtain rfl : j = 0:=by
   have : j < 1:=hj
   omega
  exact hsz
 ·have h1 : i < 1:=hi
  have h2 : j < 1:=hj
  omega
 ·show World.ownsRow _ _ _ _ _ (Mc.first s).held.length _
  have e1 : (Mc.first s).held.length = k:=by simp [Mc.first,hk]
  have e2 : chC s (Mc.first s) (List.replicate k (.slice none 0 0)) = chP s k:=by
   unfold chC chL chP;rw [e1];congr 1
   refine List.map_congr_left (fun c _ => ?_)
   rw [hql];have : (Mc.first s).shut.getD c false = false:=getD_map0 s.rooms c false
   rw [this]
  rw [e1,e2];exact own_setN hO2 hbk (by decide)
 ·rw [hql]
  have : (Mc.first s).held.getD c [] = []:=getD_map0 s.rooms c []
  rw [this];exact .inl ⟨rfl,rfl⟩
 ·simp [Mc.first,hk]
 ·rw [hql] at hc
  simp [Value.ownBlock] at hc
 ·have e1 : (Mc.first s).locked.length = ln:=by simp [Mc.first,hln]
  have e2 : (Mc.first s).locked.map Value.bool = List.replicate ln (.bool false):=by simp [Mc.first,hln]
  rw [e1,e2];exact own_setN hB2.lck hbk (by decide)
 ·have e1 : (Mc.first s).groups.length = gn:=by simp [Mc.first,hgn]
  have e2 : (Mc.first s).groups.map (Value.int .i64) = List.replicate gn (.int .i64 0):=by simp [Mc.first,hgn]
  rw [e1,e2];exact own_setN hB2.grp hbk (by decide)
 ·have e1 : (Mc.first s).cells.length = cn:=by simp [Mc.first,hcn]
  have e2 : (Mc.first s).cells.map (Value.int .i64) = List.replicate cn (.int .i64 0):=by simp [Mc.first,hcn]
  rw [e1,e2];exact own_setN hB2.cel hbk (by decide)
 ·have key : ∀ i,(i = 0 ∧ b = bG) ∨ (i = 1 ∧ b = bC) ∨ obk { rv:=.slice (some ⟨wr.heap.size + 1,0,none⟩) 1 1,hv:=.slice ha k hcp,gv:=.slice (some ⟨bG,0,none⟩) gn gn,lv:=.slice (some ⟨bL,0,none⟩) ln ln,cv:=.slice (some ⟨bC,0,none⟩) cn cn,ev:=.slice none 0 0,nv:=.slice none 0 0,nn:=[],ps:=[wr.heap.size],qs:=List.replicate k (.slice none 0 0),iv:=fun p => (w.cell? ⟨pb,po + p,none⟩).getD undef,gb:=none,gx:=0,ge:=none,gy:=0 } i ≠ some b:=fun i => by
   match i with
   | 0 =>
    by_cases h : b = bG
    ·exact .inl ⟨rfl,h⟩
    ·exact .inr (.inr (fun e => h (by simpa [obk,Value.ownBlock] using e.symm)))
   | 1 =>
    by_cases h : b = bC
    ·exact .inr (.inl ⟨rfl,h⟩)
    ·exact .inr (.inr (fun e => h (by simpa [obk,Value.ownBlock] using e.symm)))
   | 2 => exact .inr (.inr (fun e => by simp [obk,Value.ownBlock] at e))
   | 3 => exact .inr (.inr (fun e => by simp [obk] at e))
   | c + 4 => exact .inr (.inr (fun e => by simp only [obk] at e;rw [hql] at e;simp [Value.ownBlock] at e))
  have hne:=hB2.ne
  rcases key i with ⟨a1,a2⟩ | ⟨a1,a2⟩ | a1 <;> rcases key j with ⟨c1,c2⟩ | ⟨c1,c2⟩ | c1
  ·omega
  ·omega
  ·exact absurd hj c1
  ·omega
  ·omega
  ·exact absurd hj c1
  ·exact absurd hi a1
  ·exact absurd hi a1
  ·exact absurd hi a1
set_option maxRecDepth 100000 in
set_option maxHeartbeats 4000000 in
theorem pbegin1 (s : Syst) (pa : Option Addr) (pc : Nat) (ra : Option Addr) (rc gn ln cn : Nat) (w : World) (hs : SyI w s pa ra) (ho : Mc.Ok s) (hgn : s.groups = (gn : Int)) (hln : s.locks = (ln : Int)) (hcn : s.cells = (cn : Int)) :
  Calls Try.prog 13 #[.agg #[.slice pa s.progs.length pc,.slice ra s.rooms.length rc,.int .i64 (gn : Int),.int .i64 (ln : Int),.int .i64 (cn : Int)]] w fun e w' => ∃ gm m,e = .returned (.pointer (some ⟨gm,0,none⟩)) ∧ PM w w' gm s pa pc (Mc.first s) m ∧ m.gb = none:=by
 obtain ⟨POST,hP⟩ : ∃ P : Ending → World → Prop,P = fun e w' => ∃ gm m,e = .returned (.pointer (some ⟨gm,0,none⟩)) ∧ PM w w' gm s pa pc (Mc.first s) m ∧ m.gb = none:=⟨_,rfl⟩
 have HPo:=ζ hP
 rw [← hP]
 clear hP
 have hgn6 : gn ≤ 64:=by have:=ho.g1;omega
 have hln6 : ln ≤ 64:=by have:=ho.l1;omega
 have hcn6 : cn ≤ 64:=by have:=ho.c1;omega
 have hb0 : Below w.heap.size w (w.alloc (.cells #[.slice pa s.progs.length pc,.slice ra s.rooms.length rc,.int .i64 (gn : Int),.int .i64 (ln : Int),.int .i64 (cn : Int)] 30)):=(Below.refl _ _).alloc (Nat.le_refl _) _
 have n0 : (w.alloc (.cells #[.slice pa s.progs.length pc,.slice ra s.rooms.length rc,.int .i64 (gn : Int),.int .i64 (ln : Int),.int .i64 (cn : Int)] 30)).heap[w.heap.size]? = some (.cells #[.slice pa s.progs.length pc,.slice ra s.rooms.length rc,.int .i64 (gn : Int),.int .i64 (ln : Int),.int .i64 (cn : Int)] 30 (0,0)):=heap_alloc_new w _
 have HB0:=ζ hb0
 have HN0:=ζ n0
 have HSy:=ζ hs
 have HOk:=ζ ho
 have HGn:=ζ hgn
 have HLn:=ζ hln
 have HCn:=ζ hcn
 clear hb0 n0 hs ho hgn hln hcn
 go_enter Try.func13,Try.ntmps13
 refine wp_seq_k fun K0 hK0 => ?_
 have HK0:=ζ hK0
 clear hK0
 go_wp2
 refine HK0.out _ _ ?_
 clear HK0 K0
 generalize w.alloc _ = X at *
 have hgsl:=HB0.out.size
 generalize hgs : w.heap.size = gs at *
 obtain ⟨s0,s1,s2,s3,s4⟩:=cellsY5 HN0.out
 refine wp_seq_k fun KZ hKZ => ?_
 have HR : Hid (∀ (gm bG bL bC : Nat) (W : World),BM w W gm bG bL bC s pa pc (.slice none 0 0) (.slice none 0 0) gn ln cn → Below X.heap.size X W → X.heap.size ≤ gm → KZ { tmps:=#[.agg #[.slice pa s.progs.length pc,.slice ra s.rooms.length rc,.int .i64 (gn : Int),.int .i64 (ln : Int),.int .i64 (cn : Int)],.pointer (some ⟨gs,0,none⟩),.pointer none,.pointer (some ⟨gm,0,none⟩),undef,undef,.pointer (some ⟨gs,0,none⟩),.slice pa s.progs.length pc,.pointer (some ⟨gs,2,none⟩),.int .i64 (gn : Int),.slice (some ⟨bG,0,none⟩) gn gn,.pointer (some ⟨gs,3,none⟩),.int .i64 (ln : Int),.slice (some ⟨bL,0,none⟩) ln ln,.pointer (some ⟨gs,4,none⟩),.int .i64 (cn : Int),.slice (some ⟨bC,0,none⟩) cn cn,.agg #[.slice pa s.progs.length pc,.slice none 0 0,.slice none 0 0,.slice (some ⟨bG,0,none⟩) gn gn,.slice (some ⟨bL,0,none⟩) ln ln,.slice (some ⟨bC,0,none⟩) cn cn,.slice none 0 0,.slice none 0 0],.pointer (some ⟨gm,0,none⟩),undef,undef,undef,undef,undef,undef,undef,undef,undef,undef,undef,undef,undef,undef,undef,undef,undef,undef,undef,undef,undef,undef,undef,undef,undef,undef,undef,undef,undef,undef],defers:=[] } W):=by
  intro gm bG bL bC W hBM hXW hgX
  refine hKZ _ _ ?_
  clear hKZ KZ;have HBM:=ζ hBM
  have HXW:=ζ hXW
  clear hBM hXW;have q1:=keepC HXW.out s1
  refine wp_seq_k fun KT hKT => ?_
  have HKT:=ζ hKT
  clear hKT;go_wp2;clear q1;go_loopw [22] (fun i wr => ∃ (k : Nat) (ha : Option Addr) (hcp : Nat),k ≤ s.rooms.length ∧ i = .int .i64 (k : Int) ∧ Hid (BM w wr gm bG bL bC s pa pc (.slice ha k hcp) (.slice none 0 0) gn ln cn) ∧ Hid (wr.ownsRow X.heap.size 71 3 (.slice ha k hcp) k (chP s k)) ∧ Hid (Below X.heap.size X wr)) (fun i wr => s.rooms.length - (intOf i).toNat)
  case atStart => exact ⟨0,none,0,Nat.zero_le _,rfl,HBM,ζ ⟨rfl,.inl ⟨rfl,rfl⟩⟩,HXW⟩
  case round =>
   clear HBM HXW;obtain ⟨k,ha,hcp,hk,rfl,HB,HO,HXr⟩:=hrel
   by_cases hlt : k < s.rooms.length
   ·have HLT:=ζ hlt
    have hk1 : (k : Int) < (s.rooms.length : Int):=by omega
    have hk0 : (0 : Int) ≤ (k : Int):=by omega
    have hk6 : k < 64:=by have:=HOk.out.r1;omega
    obtain ⟨rb,ro,rfl,xr⟩ : ∃ rb ro,ra = some ⟨rb,ro,none⟩ ∧ wr.cell? ⟨rb,ro + k,none⟩ = some (.int .i64 (s.rooms.getD k 0)):=by
     rcases HSy.out.sm.rm with h | ⟨b,off,e,hc⟩
     ·rw [h] at hlt;simp at hlt
     ·exact ⟨b,off,e,keepC (HB.out.bl) (hc k hlt)⟩
    have HCm:=ζ (chP_more s k)
    obtain ⟨rm,hrm⟩ : ∃ rm,s.rooms.getD k 0 = rm:=⟨_,rfl⟩
    rw [hrm] at xr HCm;clear hrm hlt;have c2 : wr.cell? ⟨gm,2,none⟩ = some (.slice ha k hcp):=blk_cell HB.out.blk rfl
    have hAl : Below wr.heap.size wr (wr.alloc (.cells #[.int .i64 rm,.slice none 0 0,.bool false] 71)):=(Below.refl _ _).alloc (Nat.le_refl _) _
    have HBa:=ζ (HB.out.below hAl)
    have HOa:=ζ (own_belowI HO.out hAl)
    have HXa : Hid (Below X.heap.size X (wr.alloc (.cells #[.int .i64 rm,.slice none 0 0,.bool false] 71))):=HXr.out.trans (hAl.mono HXr.out.size)
    have hbz : X.heap.size ≤ (wr.alloc (.cells #[.int .i64 rm,.slice none 0 0,.bool false] 71)).heap.size:=HXa.out.size
    clear hAl;obtain ⟨k2,hk2⟩ : ∃ k2,k + 1 = k2:=⟨_,rfl⟩
    have HF5 : Hid (∀ v5 w5,w5.ownsRow X.heap.size 71 3 v5 (k + 1) (chP s k ++ [.int .i64 rm,.slice none 0 0,.bool false]) → (wr.alloc (.cells #[.int .i64 rm,.slice none 0 0,.bool false] 71)).grownBy w5 (Value.slice ha k hcp).ownBlock → ∃ va vc,v5 = .slice va k2 vc ∧ BM w (w5.setCell ⟨gm,2,none⟩ (.slice va k2 vc)) gm bG bL bC s pa pc (.slice va k2 vc) (.slice none 0 0) gn ln cn ∧ (w5.setCell ⟨gm,2,none⟩ (.slice va k2 vc)).ownsRow X.heap.size 71 3 (.slice va k2 vc) k2 (chP s k2) ∧ Below X.heap.size X (w5.setCell ⟨gm,2,none⟩ (.slice va k2 vc)) ∧ w5.frozen? ⟨gm,2,none⟩ = false ∧ ∃ z,w5.cell? ⟨gm,2,none⟩ = some z):=fun v5 w5 h1 h2 => by
     obtain ⟨va,vc,e⟩:=own_open13 h1
     rw [hk2] at e;rw [← HCm.out,hk2,e] at h1;subst e;have hbg : w5.heap[gm]? = (wr.alloc (.cells #[.int .i64 rm,.slice none 0 0,.bool false] 71)).heap[gm]?:=h2.block gm (blk_lt HBa.out.blk) (fun e => own_neB HOa.out HBa.out.blk (by decide) e.symm)
     have hb5:=HBa.out.blk
     rw [← hbg] at hb5;have kp : ∀ {n : Nat} {ty : TypeId} {v : Value} {xs : List Value},(wr.alloc (.cells #[.int .i64 rm,.slice none 0 0,.bool false] 71)).ownsRow w.heap.size ty 1 v n xs → ty ≠ 71 → ty ≠ 55 → (w5.setCell ⟨gm,2,none⟩ (.slice va k2 vc)).ownsRow w.heap.size ty 1 v n xs:=fun q1 q2 q3 => own_setN (own_grownT q1 h2 (own_neT q1 HOa.out q2)) hb5 q3
     refine ⟨va,vc,rfl,⟨(HBa.out.bl.grown h2 HBa.out.bl.size (fun q hq => by have:=own_blkI HOa.out q hq;omega)).setCell (p:=⟨gm,2,none⟩) HBa.out.gB _,HBa.out.gB,blk_set (i:=2) (u:=.slice va k2 vc) hb5,kp HBa.out.grp (by decide) (by decide),kp HBa.out.lck (by decide) (by decide),kp HBa.out.cel (by decide) (by decide),HBa.out.ne⟩,own_setN h1 hb5 (by decide),(HXa.out.grown h2 HXa.out.size (own_blkI HOa.out)).setCell (p:=⟨gm,2,none⟩) hgX _,by simp [World.frozen?,hb5],_,blk_cell hb5 rfl⟩
    obtain ⟨ic,hic,hzc0,hzc1,hzc2⟩:=info_parts' chinfo
    go_wp2_with (at_builtin;refine wpList_append_own _ rfl _ _ 52 rfl X.heap.size 71 ic _ 3 40 Try.underlying52 hic hzc0 hzc1 hzc2 rfl (by decide) _ k (chP s k) rfl HOa.out ⟨wr.heap.size,0,none⟩ 1 1 [.int .i64 rm,.slice none 0 0,.bool false] rfl rfl (fun j u hj => by rw [Addr.add_mid,Nat.zero_add];exact blk_cell (heap_alloc_new wr _) (by simpa using hj)) (by simp [Value.oneCell']) (by unfold maxLen;omega) (by omega) hbz ?_;(intro v5 w5 h51 h52 _);obtain ⟨va,vc,rfl,h53,h54,h55,h56,z5,h57⟩:=HF5.out v5 w5 h51 h52;have HB5:=ζ h53;have HO5:=ζ h54;have HX5:=ζ h55;clear h51 h52 h53 h54 h55 HF5)
    clear h56 h57;generalize World.setCell _ _ _ = X5 at *;go_wp2;go_roundw
    case rel => exact ⟨k2,va,vc,by have:=HLT.out;omega,by rw [← hk2];go_num,HB5,HO5,HX5⟩
    case measure => simp [intOf];have:=HLT.out;omega
   ·have hkn : s.rooms.length = k:=by omega
    have hkI : ¬ (k : Int) < (k : Int):=by omega
    obtain ⟨pb,po,hpa,hpr⟩ : ∃ pb po,pa = some ⟨pb,po,none⟩ ∧ ∀ p,p < s.progs.length → ∃ A K,w.cell? ⟨pb,po + p,none⟩ = some (.slice A (s.progs.getD p []).length K) ∧ IR w A (s.progs.getD p []):=by
     rcases HSy.out.sm.pr with h | ⟨b,off,e,hc⟩
     ·exfalso;have:=HOk.out.p1;rw [h] at this;simp at this
     ·exact ⟨b,off,e,hc⟩
    obtain ⟨A,KA,hp0,_⟩:=hpr 0 HOk.out.p1
    subst hpa;have hpn : (0 : Int) < (s.progs.length : Int):=by have:=HOk.out.p1;omega
    have HPM:=ζ (begin_pm pb po hpr HOk.out HB.out (own_base HO.out (by omega)) hkn HGn.out HLn.out HCn.out A KA hp0)
    obtain ⟨l0,hl0⟩ : ∃ l0,(s.progs.getD 0 []).length = l0:=⟨_,rfl⟩
    rw [hl0] at hp0 HPM;have y0:=keepC HXr.out s0
    have yp:=keepC HB.out.bl hp0
    rw [Nat.add_zero] at yp;have c1 : wr.cell? ⟨gm,1,none⟩ = some (.slice none 0 0):=blk_cell HB.out.blk rfl
    have hA1 : Below wr.heap.size wr ((wr.alloc (.cells #[.slice A l0 KA,.int .i64 0,.int .i64 0,.int .i64 0,.int .i64 0,.int .i64 0,.int .i64 0,.int .i64 0,.int .i64 0,.int .i64 0] 75)).alloc (.cells #[.pointer (some ⟨wr.heap.size,0,none⟩)] 72)):=((Below.refl _ _).alloc (Nat.le_refl _) _).alloc (by simp) _
    have c1':=keepC hA1 c1
    have f1' : ((wr.alloc (.cells #[.slice A l0 KA,.int .i64 0,.int .i64 0,.int .i64 0,.int .i64 0,.int .i64 0,.int .i64 0,.int .i64 0,.int .i64 0,.int .i64 0] 75)).alloc (.cells #[.pointer (some ⟨wr.heap.size,0,none⟩)] 72)).frozen? ⟨gm,1,none⟩ = false:=by simp [World.frozen?,blk_keep HB.out.blk hA1]
    clear hA1 hl0 hp0;rw [hkn] at *
    go_wp2;refine HKT.out _ _ ?_;go_wp2;rw [HPo.out];exact ⟨gm,_,rfl,HPM.out,rfl⟩
 clear hKZ
 obtain ⟨i3,hi3,hz30,hz31,hz32⟩:=info_parts' intinfo
 obtain ⟨i4,hi4,hz40,hz41,hz42⟩:=info_parts' boolinfo
 have HX : Hid (Below X.heap.size X X):=Below.refl _ _
 refine wp_region_noPanic ?_
 refine RG.wp_region_L (fun Z => True) (fun Z => Below X.heap.size X Z) [] (by kernel_rfl) ?_
 refine RG.wpL_any fun Yz22 hY => ?_
 have HTz22 : Hid (Below X.heap.size X Yz22):=by rw [hY];exact below_drewN HX.out 1
 clear hY
 refine RG.wpL_take (fuel:=6) (a':=?Az22) [0,1,2,3,5,6,8,9] (by kernel_rfl) (by kernel_rfl) (fun _ _ _ _ _ h => h) HTz22.out (fun _ => trivial) ?rz22 ?_
 case rz22 =>
  refine RG.rW ?_ (fun Z hT => ?_) ?_
  rotate_left
  ·go_simp
   rfl
  simp only [Act.put,lA,lB,lC,lD,lE,lF]
  refine RG.rW (.slice pa s.progs.length pc) (fun Z hT => ?_) ?_
  ·have y0:=keepC hT s0;have y2:=keepC hT s2;have y3:=keepC hT s3;have y4:=keepC hT s4
   go_simp
  simp only [Act.put,lA,lB,lC,lD,lE,lF]
  refine RG.rW ?_ (fun Z hT => ?_) ?_
  rotate_left
  ·go_simp
   rfl
  simp only [Act.put,lA,lB,lC,lD,lE,lF]
  refine RG.rW (.int .i64 (gn : Int)) (fun Z hT => ?_) ?_
  ·have y0:=keepC hT s0;have y2:=keepC hT s2;have y3:=keepC hT s3;have y4:=keepC hT s4
   go_simp
  simp only [Act.put,lA,lB,lC,lD,lE,lF]
  refine RG.rW ?_ (fun Z hT => ?_) ?_
  rotate_left
  ·go_simp
   rfl
  simp only [Act.put,lA,lB,lC,lD,lE,lF]
  refine RG.rW (.int .i64 (ln : Int)) (fun Z hT => ?_) ?_
  ·have y0:=keepC hT s0;have y2:=keepC hT s2;have y3:=keepC hT s3;have y4:=keepC hT s4
   go_simp
  simp only [Act.put,lA,lB,lC,lD,lE,lF]
  refine RG.rW ?_ (fun Z hT => ?_) ?_
  rotate_left
  ·go_simp
   rfl
  simp only [Act.put,lA,lB,lC,lD,lE,lF]
  refine RG.rW (.int .i64 (cn : Int)) (fun Z hT => ?_) ?_
  ·have y0:=keepC hT s0;have y2:=keepC hT s2;have y3:=keepC hT s3;have y4:=keepC hT s4
   go_simp
  simp only [Act.put,lA,lB,lC,lD,lE,lF]
  exact RG.RunsIf.nil
 refine RG.wpL_three (i:=4) (j:=7) (l:=10) (by kernel_rfl) (by rfl) (by rfl) (by rfl) (by rfl) (by rfl) (by rfl) (fun KX hK => ?_) (fun KX hK => ?_) (fun KX hK => ?_)
 ·have HK:=ζ hK
  clear hK;refine wp_make_full Yz22 _ _ 24 (by rfl) w.heap.size 3 i3 (.int .i64 0) 1 Try.underlying24 hi3 hz30 hz31 .i64 .i64 (gn : Int) (gn : Int) gn (by rfl) (by rfl) rfl rfl (by rw [hz32];omega) (by unfold maxLen;omega) (by rw [hgs];have:=HTz22.out.size;omega) ?_
  intro V3_z23 hown hgrow
  rw [made_rep _ rfl] at hown;have HTV3_z23 : Hid (Below X.heap.size X V3_z23):=HTz22.out.grown hgrow HTz22.out.size (by intro k h;cases h)
  have HOG:=ζ hown
  have hltG_ : Yz22.heap.size < V3_z23.heap.size:=own_lt hown _ rfl
  refine HK.out _ _ HTV3_z23.out (fun _ => trivial) ?_
  clear HK KX hown hgrow;try simp only [Act.put,lA,lB,lC,lD,lE,lF]
  generalize hqG : Yz22.heap.size = bG at *;refine RG.wpL_pair (i:=7) (j:=10) (by kernel_rfl) (by rfl) (by rfl) (by rfl) (by rfl) (fun KX hK => ?_) (fun KX hK => ?_)
  ·have HK:=ζ hK
   clear hK;refine wp_make_full V3_z23 _ _ 53 (by rfl) w.heap.size 4 i4 (.bool false) 1 Try.underlying53 hi4 hz40 hz41 .i64 .i64 (ln : Int) (ln : Int) ln (by rfl) (by rfl) rfl rfl (by rw [hz42];omega) (by unfold maxLen;omega) (by rw [hgs];have:=HTV3_z23.out.size;omega) ?_
   intro V2_z24 hown hgrow
   rw [made_rep _ rfl] at hown;have HTV2_z24 : Hid (Below X.heap.size X V2_z24):=HTV3_z23.out.grown hgrow HTV3_z23.out.size (by intro k h;cases h)
   have HOG_:=ζ (own_grownT HOG.out hgrow (fun _ _ h => by cases h))
   clear HOG;have HOG:=HOG_
   clear HOG_;have HOL:=ζ hown
   have hltL_ : V3_z23.heap.size < V2_z24.heap.size:=own_lt hown _ rfl
   refine HK.out _ _ HTV2_z24.out (fun _ => trivial) ?_
   clear HK KX hown hgrow;try simp only [Act.put,lA,lB,lC,lD,lE,lF]
   generalize hqL : V3_z23.heap.size = bL at *;refine RG.wpL_step (i:=10) (by kernel_rfl) (by rfl) (by rfl) (fun KX hK => ?_)
   have HK:=ζ hK
   clear hK;refine wp_make_full V2_z24 _ _ 24 (by rfl) w.heap.size 3 i3 (.int .i64 0) 1 Try.underlying24 hi3 hz30 hz31 .i64 .i64 (cn : Int) (cn : Int) cn (by rfl) (by rfl) rfl rfl (by rw [hz32];omega) (by unfold maxLen;omega) (by rw [hgs];have:=HTV2_z24.out.size;omega) ?_
   intro V1_z25 hown hgrow
   rw [made_rep _ rfl] at hown;have HTV1_z25 : Hid (Below X.heap.size X V1_z25):=HTV2_z24.out.grown hgrow HTV2_z24.out.size (by intro k h;cases h)
   have HOG_:=ζ (own_grownT HOG.out hgrow (fun _ _ h => by cases h))
   clear HOG;have HOG:=HOG_
   clear HOG_;have HOL_:=ζ (own_grownT HOL.out hgrow (fun _ _ h => by cases h))
   clear HOL;have HOL:=HOL_
   clear HOL_;have HOC:=ζ hown
   have hltC_ : V2_z24.heap.size < V1_z25.heap.size:=own_lt hown _ rfl
   refine HK.out _ _ HTV1_z25.out (fun _ => trivial) ?_
   clear HK KX hown hgrow;try simp only [Act.put,lA,lB,lC,lD,lE,lF]
   generalize hqC : V2_z24.heap.size = bC at *;have hneq : bG ≠ bC:=by omega
   refine RG.wpL_take (fuel:=2) (a':=?Az26) [11] (by kernel_rfl) (by kernel_rfl) (fun _ _ _ _ _ h => h) HTV1_z25.out (fun _ => trivial) ?rz26 ?_
   case rz26 =>
    refine RG.rW (.agg #[.slice pa s.progs.length pc,.slice none 0 0,.slice none 0 0,.slice (some ⟨bG,0,none⟩) gn gn,.slice (some ⟨bL,0,none⟩) ln ln,.slice (some ⟨bC,0,none⟩) cn cn,.slice none 0 0,.slice none 0 0]) (fun Z hT => ?_) ?_
    ·go_simp
    simp only [Act.put,lA,lB,lC,lD,lE,lF]
    exact RG.RunsIf.nil
   have hA : Below V1_z25.heap.size V1_z25 (V1_z25.alloc (.cells #[.slice pa s.progs.length pc,.slice none 0 0,.slice none 0 0,.slice (some ⟨bG,0,none⟩) gn gn,.slice (some ⟨bL,0,none⟩) ln ln,.slice (some ⟨bC,0,none⟩) cn cn,.slice none 0 0,.slice none 0 0] 55)):=(Below.refl _ _).alloc (Nat.le_refl _) _
   have HTa : Hid (Below X.heap.size X (V1_z25.alloc (.cells #[.slice pa s.progs.length pc,.slice none 0 0,.slice none 0 0,.slice (some ⟨bG,0,none⟩) gn gn,.slice (some ⟨bL,0,none⟩) ln ln,.slice (some ⟨bC,0,none⟩) cn cn,.slice none 0 0,.slice none 0 0] 55))):=HTV1_z25.out.trans (hA.mono HTV1_z25.out.size)
   have HBM : Hid (BM w (V1_z25.alloc (.cells #[.slice pa s.progs.length pc,.slice none 0 0,.slice none 0 0,.slice (some ⟨bG,0,none⟩) gn gn,.slice (some ⟨bL,0,none⟩) ln ln,.slice (some ⟨bC,0,none⟩) cn cn,.slice none 0 0,.slice none 0 0] 55)) V1_z25.heap.size bG bL bC s pa pc (.slice none 0 0) (.slice none 0 0) gn ln cn):=⟨by rw [hgs];exact HB0.out.trans (HTa.out.mono hgsl),by rw [hgs];have:=HTV1_z25.out.size;omega,heap_alloc_new _ _,own_belowI HOG.out hA,own_belowI HOL.out hA,own_belowI HOC.out hA,hneq⟩
   refine RG.wpL_step (i:=12) (by kernel_rfl) (by rfl) (by rfl) (fun KX hK => ?_)
   have HK:=ζ hK
   clear hK;go_simp;refine HK.out _ _ HTa.out (fun _ => trivial) ?_
   clear HK KX hA;try simp only [Act.put,lA,lB,lC,lD,lE,lF]
   have hgmX:=HTV1_z25.out.size
   generalize V1_z25.alloc _ = Yz at *;generalize V1_z25.heap.size = gm at *;refine RG.wpL_take (fuel:=0) (a':=?Az27) [13] (by kernel_rfl) (by kernel_rfl) (fun _ _ _ _ _ h => h) HTa.out (fun _ => trivial) ?rz27 ?_
   case rz27 =>
    refine RG.rW ?_ (fun Z hT => ?_) ?_
    rotate_left
    ·go_simp
     rfl
    simp only [Act.put,lA,lB,lC,lD,lE,lF]
    exact RG.RunsIf.nil
   refine RG.wpL_done (by kernel_rfl) ?_ _
   refine NoPanic.normal ?_
   exact HR.out gm bG bL bC Yz HBM.out HTa.out hgmX
  ·have HK:=ζ hK
   clear hK;refine wp_make_full V3_z23 _ _ 24 (by rfl) w.heap.size 3 i3 (.int .i64 0) 1 Try.underlying24 hi3 hz30 hz31 .i64 .i64 (cn : Int) (cn : Int) cn (by rfl) (by rfl) rfl rfl (by rw [hz32];omega) (by unfold maxLen;omega) (by rw [hgs];have:=HTV3_z23.out.size;omega) ?_
   intro V2_z28 hown hgrow
   rw [made_rep _ rfl] at hown;have HTV2_z28 : Hid (Below X.heap.size X V2_z28):=HTV3_z23.out.grown hgrow HTV3_z23.out.size (by intro k h;cases h)
   have HOG_:=ζ (own_grownT HOG.out hgrow (fun _ _ h => by cases h))
   clear HOG;have HOG:=HOG_
   clear HOG_;have HOC:=ζ hown
   have hltC_ : V3_z23.heap.size < V2_z28.heap.size:=own_lt hown _ rfl
   refine HK.out _ _ HTV2_z28.out (fun _ => trivial) ?_
   clear HK KX hown hgrow;try simp only [Act.put,lA,lB,lC,lD,lE,lF]
   generalize hqC : V3_z23.heap.size = bC at *;refine RG.wpL_step (i:=7) (by kernel_rfl) (by rfl) (by rfl) (fun KX hK => ?_)
   have HK:=ζ hK
   clear hK;refine wp_make_full V2_z28 _ _ 53 (by rfl) w.heap.size 4 i4 (.bool false) 1 Try.underlying53 hi4 hz40 hz41 .i64 .i64 (ln : Int) (ln : Int) ln (by rfl) (by rfl) rfl rfl (by rw [hz42];omega) (by unfold maxLen;omega) (by rw [hgs];have:=HTV2_z28.out.size;omega) ?_
   intro V1_z29 hown hgrow
   rw [made_rep _ rfl] at hown;have HTV1_z29 : Hid (Below X.heap.size X V1_z29):=HTV2_z28.out.grown hgrow HTV2_z28.out.size (by intro k h;cases h)
   have HOG_:=ζ (own_grownT HOG.out hgrow (fun _ _ h => by cases h))
   clear HOG;have HOG:=HOG_
   clear HOG_;have HOC_:=ζ (own_grownT HOC.out hgrow (fun _ _ h => by cases h))
   clear HOC;have HOC:=HOC_
   clear HOC_;have HOL:=ζ hown
   have hltL_ : V2_z28.heap.size < V1_z29.heap.size:=own_lt hown _ rfl
   refine HK.out _ _ HTV1_z29.out (fun _ => trivial) ?_
   clear HK KX hown hgrow;try simp only [Act.put,lA,lB,lC,lD,lE,lF]
   generalize hqL : V2_z28.heap.size = bL at *;have hneq : bG ≠ bC:=by omega
   refine RG.wpL_take (fuel:=2) (a':=?Az30) [11] (by kernel_rfl) (by kernel_rfl) (fun _ _ _ _ _ h => h) HTV1_z29.out (fun _ => trivial) ?rz30 ?_
   case rz30 =>
    refine RG.rW (.agg #[.slice pa s.progs.length pc,.slice none 0 0,.slice none 0 0,.slice (some ⟨bG,0,none⟩) gn gn,.slice (some ⟨bL,0,none⟩) ln ln,.slice (some ⟨bC,0,none⟩) cn cn,.slice none 0 0,.slice none 0 0]) (fun Z hT => ?_) ?_
    ·go_simp
    simp only [Act.put,lA,lB,lC,lD,lE,lF]
    exact RG.RunsIf.nil
   have hA : Below V1_z29.heap.size V1_z29 (V1_z29.alloc (.cells #[.slice pa s.progs.length pc,.slice none 0 0,.slice none 0 0,.slice (some ⟨bG,0,none⟩) gn gn,.slice (some ⟨bL,0,none⟩) ln ln,.slice (some ⟨bC,0,none⟩) cn cn,.slice none 0 0,.slice none 0 0] 55)):=(Below.refl _ _).alloc (Nat.le_refl _) _
   have HTa : Hid (Below X.heap.size X (V1_z29.alloc (.cells #[.slice pa s.progs.length pc,.slice none 0 0,.slice none 0 0,.slice (some ⟨bG,0,none⟩) gn gn,.slice (some ⟨bL,0,none⟩) ln ln,.slice (some ⟨bC,0,none⟩) cn cn,.slice none 0 0,.slice none 0 0] 55))):=HTV1_z29.out.trans (hA.mono HTV1_z29.out.size)
   have HBM : Hid (BM w (V1_z29.alloc (.cells #[.slice pa s.progs.length pc,.slice none 0 0,.slice none 0 0,.slice (some ⟨bG,0,none⟩) gn gn,.slice (some ⟨bL,0,none⟩) ln ln,.slice (some ⟨bC,0,none⟩) cn cn,.slice none 0 0,.slice none 0 0] 55)) V1_z29.heap.size bG bL bC s pa pc (.slice none 0 0) (.slice none 0 0) gn ln cn):=⟨by rw [hgs];exact HB0.out.trans (HTa.out.mono hgsl),by rw [hgs];have:=HTV1_z29.out.size;omega,heap_alloc_new _ _,own_belowI HOG.out hA,own_belowI HOL.out hA,own_belowI HOC.out hA,hneq⟩
   refine RG.wpL_step (i:=12) (by kernel_rfl) (by rfl) (by rfl) (fun KX hK => ?_)
   have HK:=ζ hK
   clear hK;go_simp;refine HK.out _ _ HTa.out (fun _ => trivial) ?_
   clear HK KX hA;try simp only [Act.put,lA,lB,lC,lD,lE,lF]
   have hgmX:=HTV1_z29.out.size
   generalize V1_z29.alloc _ = Yz at *;generalize V1_z29.heap.size = gm at *;refine RG.wpL_take (fuel:=0) (a':=?Az31) [13] (by kernel_rfl) (by kernel_rfl) (fun _ _ _ _ _ h => h) HTa.out (fun _ => trivial) ?rz31 ?_
   case rz31 =>
    refine RG.rW ?_ (fun Z hT => ?_) ?_
    rotate_left
    ·go_simp
     rfl
    simp only [Act.put,lA,lB,lC,lD,lE,lF]
    exact RG.RunsIf.nil
   refine RG.wpL_done (by kernel_rfl) ?_ _
   refine NoPanic.normal ?_
   exact HR.out gm bG bL bC Yz HBM.out HTa.out hgmX
 ·have HK:=ζ hK
  clear hK;refine wp_make_full Yz22 _ _ 53 (by rfl) w.heap.size 4 i4 (.bool false) 1 Try.underlying53 hi4 hz40 hz41 .i64 .i64 (ln : Int) (ln : Int) ln (by rfl) (by rfl) rfl rfl (by rw [hz42];omega) (by unfold maxLen;omega) (by rw [hgs];have:=HTz22.out.size;omega) ?_
  intro V3_z32 hown hgrow
  rw [made_rep _ rfl] at hown;have HTV3_z32 : Hid (Below X.heap.size X V3_z32):=HTz22.out.grown hgrow HTz22.out.size (by intro k h;cases h)
  have HOL:=ζ hown
  have hltL_ : Yz22.heap.size < V3_z32.heap.size:=own_lt hown _ rfl
  refine HK.out _ _ HTV3_z32.out (fun _ => trivial) ?_
  clear HK KX hown hgrow;try simp only [Act.put,lA,lB,lC,lD,lE,lF]
  generalize hqL : Yz22.heap.size = bL at *;refine RG.wpL_pair (i:=4) (j:=10) (by kernel_rfl) (by rfl) (by rfl) (by rfl) (by rfl) (fun KX hK => ?_) (fun KX hK => ?_)
  ·have HK:=ζ hK
   clear hK;refine wp_make_full V3_z32 _ _ 24 (by rfl) w.heap.size 3 i3 (.int .i64 0) 1 Try.underlying24 hi3 hz30 hz31 .i64 .i64 (gn : Int) (gn : Int) gn (by rfl) (by rfl) rfl rfl (by rw [hz32];omega) (by unfold maxLen;omega) (by rw [hgs];have:=HTV3_z32.out.size;omega) ?_
   intro V2_z33 hown hgrow
   rw [made_rep _ rfl] at hown;have HTV2_z33 : Hid (Below X.heap.size X V2_z33):=HTV3_z32.out.grown hgrow HTV3_z32.out.size (by intro k h;cases h)
   have HOL_:=ζ (own_grownT HOL.out hgrow (fun _ _ h => by cases h))
   clear HOL;have HOL:=HOL_
   clear HOL_;have HOG:=ζ hown
   have hltG_ : V3_z32.heap.size < V2_z33.heap.size:=own_lt hown _ rfl
   refine HK.out _ _ HTV2_z33.out (fun _ => trivial) ?_
   clear HK KX hown hgrow;try simp only [Act.put,lA,lB,lC,lD,lE,lF]
   generalize hqG : V3_z32.heap.size = bG at *;refine RG.wpL_step (i:=10) (by kernel_rfl) (by rfl) (by rfl) (fun KX hK => ?_)
   have HK:=ζ hK
   clear hK;refine wp_make_full V2_z33 _ _ 24 (by rfl) w.heap.size 3 i3 (.int .i64 0) 1 Try.underlying24 hi3 hz30 hz31 .i64 .i64 (cn : Int) (cn : Int) cn (by rfl) (by rfl) rfl rfl (by rw [hz32];omega) (by unfold maxLen;omega) (by rw [hgs];have:=HTV2_z33.out.size;omega) ?_
   intro V1_z34 hown hgrow
   rw [made_rep _ rfl] at hown;have HTV1_z34 : Hid (Below X.heap.size X V1_z34):=HTV2_z33.out.grown hgrow HTV2_z33.out.size (by intro k h;cases h)
   have HOL_:=ζ (own_grownT HOL.out hgrow (fun _ _ h => by cases h))
   clear HOL;have HOL:=HOL_
   clear HOL_;have HOG_:=ζ (own_grownT HOG.out hgrow (fun _ _ h => by cases h))
   clear HOG;have HOG:=HOG_
   clear HOG_;have HOC:=ζ hown
   have hltC_ : V2_z33.heap.size < V1_z34.heap.size:=own_lt hown _ rfl
   refine HK.out _ _ HTV1_z34.out (fun _ => trivial) ?_
   clear HK KX hown hgrow;try simp only [Act.put,lA,lB,lC,lD,lE,lF]
   generalize hqC : V2_z33.heap.size = bC at *;have hneq : bG ≠ bC:=by omega
   refine RG.wpL_take (fuel:=2) (a':=?Az35) [11] (by kernel_rfl) (by kernel_rfl) (fun _ _ _ _ _ h => h) HTV1_z34.out (fun _ => trivial) ?rz35 ?_
   case rz35 =>
    refine RG.rW (.agg #[.slice pa s.progs.length pc,.slice none 0 0,.slice none 0 0,.slice (some ⟨bG,0,none⟩) gn gn,.slice (some ⟨bL,0,none⟩) ln ln,.slice (some ⟨bC,0,none⟩) cn cn,.slice none 0 0,.slice none 0 0]) (fun Z hT => ?_) ?_
    ·go_simp
    simp only [Act.put,lA,lB,lC,lD,lE,lF]
    exact RG.RunsIf.nil
   have hA : Below V1_z34.heap.size V1_z34 (V1_z34.alloc (.cells #[.slice pa s.progs.length pc,.slice none 0 0,.slice none 0 0,.slice (some ⟨bG,0,none⟩) gn gn,.slice (some ⟨bL,0,none⟩) ln ln,.slice (some ⟨bC,0,none⟩) cn cn,.slice none 0 0,.slice none 0 0] 55)):=(Below.refl _ _).alloc (Nat.le_refl _) _
   have HTa : Hid (Below X.heap.size X (V1_z34.alloc (.cells #[.slice pa s.progs.length pc,.slice none 0 0,.slice none 0 0,.slice (some ⟨bG,0,none⟩) gn gn,.slice (some ⟨bL,0,none⟩) ln ln,.slice (some ⟨bC,0,none⟩) cn cn,.slice none 0 0,.slice none 0 0] 55))):=HTV1_z34.out.trans (hA.mono HTV1_z34.out.size)
   have HBM : Hid (BM w (V1_z34.alloc (.cells #[.slice pa s.progs.length pc,.slice none 0 0,.slice none 0 0,.slice (some ⟨bG,0,none⟩) gn gn,.slice (some ⟨bL,0,none⟩) ln ln,.slice (some ⟨bC,0,none⟩) cn cn,.slice none 0 0,.slice none 0 0] 55)) V1_z34.heap.size bG bL bC s pa pc (.slice none 0 0) (.slice none 0 0) gn ln cn):=⟨by rw [hgs];exact HB0.out.trans (HTa.out.mono hgsl),by rw [hgs];have:=HTV1_z34.out.size;omega,heap_alloc_new _ _,own_belowI HOG.out hA,own_belowI HOL.out hA,own_belowI HOC.out hA,hneq⟩
   refine RG.wpL_step (i:=12) (by kernel_rfl) (by rfl) (by rfl) (fun KX hK => ?_)
   have HK:=ζ hK
   clear hK;go_simp;refine HK.out _ _ HTa.out (fun _ => trivial) ?_
   clear HK KX hA;try simp only [Act.put,lA,lB,lC,lD,lE,lF]
   have hgmX:=HTV1_z34.out.size
   generalize V1_z34.alloc _ = Yz at *;generalize V1_z34.heap.size = gm at *;refine RG.wpL_take (fuel:=0) (a':=?Az36) [13] (by kernel_rfl) (by kernel_rfl) (fun _ _ _ _ _ h => h) HTa.out (fun _ => trivial) ?rz36 ?_
   case rz36 =>
    refine RG.rW ?_ (fun Z hT => ?_) ?_
    rotate_left
    ·go_simp
     rfl
    simp only [Act.put,lA,lB,lC,lD,lE,lF]
    exact RG.RunsIf.nil
   refine RG.wpL_done (by kernel_rfl) ?_ _
   refine NoPanic.normal ?_
   exact HR.out gm bG bL bC Yz HBM.out HTa.out hgmX
  ·have HK:=ζ hK
   clear hK;refine wp_make_full V3_z32 _ _ 24 (by rfl) w.heap.size 3 i3 (.int .i64 0) 1 Try.underlying24 hi3 hz30 hz31 .i64 .i64 (cn : Int) (cn : Int) cn (by rfl) (by rfl) rfl rfl (by rw [hz32];omega) (by unfold maxLen;omega) (by rw [hgs];have:=HTV3_z32.out.size;omega) ?_
   intro V2_z37 hown hgrow
   rw [made_rep _ rfl] at hown;have HTV2_z37 : Hid (Below X.heap.size X V2_z37):=HTV3_z32.out.grown hgrow HTV3_z32.out.size (by intro k h;cases h)
   have HOL_:=ζ (own_grownT HOL.out hgrow (fun _ _ h => by cases h))
   clear HOL;have HOL:=HOL_
   clear HOL_;have HOC:=ζ hown
   have hltC_ : V3_z32.heap.size < V2_z37.heap.size:=own_lt hown _ rfl
   refine HK.out _ _ HTV2_z37.out (fun _ => trivial) ?_
   clear HK KX hown hgrow;try simp only [Act.put,lA,lB,lC,lD,lE,lF]
   generalize hqC : V3_z32.heap.size = bC at *;refine RG.wpL_step (i:=4) (by kernel_rfl) (by rfl) (by rfl) (fun KX hK => ?_)
   have HK:=ζ hK
   clear hK;refine wp_make_full V2_z37 _ _ 24 (by rfl) w.heap.size 3 i3 (.int .i64 0) 1 Try.underlying24 hi3 hz30 hz31 .i64 .i64 (gn : Int) (gn : Int) gn (by rfl) (by rfl) rfl rfl (by rw [hz32];omega) (by unfold maxLen;omega) (by rw [hgs];have:=HTV2_z37.out.size;omega) ?_
   intro V1_z38 hown hgrow
   rw [made_rep _ rfl] at hown;have HTV1_z38 : Hid (Below X.heap.size X V1_z38):=HTV2_z37.out.grown hgrow HTV2_z37.out.size (by intro k h;cases h)
   have HOL_:=ζ (own_grownT HOL.out hgrow (fun _ _ h => by cases h))
   clear HOL;have HOL:=HOL_
   clear HOL_;have HOC_:=ζ (own_grownT HOC.out hgrow (fun _ _ h => by cases h))
   clear HOC;have HOC:=HOC_
   clear HOC_;have HOG:=ζ hown
   have hltG_ : V2_z37.heap.size < V1_z38.heap.size:=own_lt hown _ rfl
   refine HK.out _ _ HTV1_z38.out (fun _ => trivial) ?_
   clear HK KX hown hgrow;try simp only [Act.put,lA,lB,lC,lD,lE,lF]
   generalize hqG : V2_z37.heap.size = bG at *;have hneq : bG ≠ bC:=by omega
   refine RG.wpL_take (fuel:=2) (a':=?Az39) [11] (by kernel_rfl) (by kernel_rfl) (fun _ _ _ _ _ h => h) HTV1_z38.out (fun _ => trivial) ?rz39 ?_
   case rz39 =>
    refine RG.rW (.agg #[.slice pa s.progs.length pc,.slice none 0 0,.slice none 0 0,.slice (some ⟨bG,0,none⟩) gn gn,.slice (some ⟨bL,0,none⟩) ln ln,.slice (some ⟨bC,0,none⟩) cn cn,.slice none 0 0,.slice none 0 0]) (fun Z hT => ?_) ?_
    ·go_simp
    simp only [Act.put,lA,lB,lC,lD,lE,lF]
    exact RG.RunsIf.nil
   have hA : Below V1_z38.heap.size V1_z38 (V1_z38.alloc (.cells #[.slice pa s.progs.length pc,.slice none 0 0,.slice none 0 0,.slice (some ⟨bG,0,none⟩) gn gn,.slice (some ⟨bL,0,none⟩) ln ln,.slice (some ⟨bC,0,none⟩) cn cn,.slice none 0 0,.slice none 0 0] 55)):=(Below.refl _ _).alloc (Nat.le_refl _) _
   have HTa : Hid (Below X.heap.size X (V1_z38.alloc (.cells #[.slice pa s.progs.length pc,.slice none 0 0,.slice none 0 0,.slice (some ⟨bG,0,none⟩) gn gn,.slice (some ⟨bL,0,none⟩) ln ln,.slice (some ⟨bC,0,none⟩) cn cn,.slice none 0 0,.slice none 0 0] 55))):=HTV1_z38.out.trans (hA.mono HTV1_z38.out.size)
   have HBM : Hid (BM w (V1_z38.alloc (.cells #[.slice pa s.progs.length pc,.slice none 0 0,.slice none 0 0,.slice (some ⟨bG,0,none⟩) gn gn,.slice (some ⟨bL,0,none⟩) ln ln,.slice (some ⟨bC,0,none⟩) cn cn,.slice none 0 0,.slice none 0 0] 55)) V1_z38.heap.size bG bL bC s pa pc (.slice none 0 0) (.slice none 0 0) gn ln cn):=⟨by rw [hgs];exact HB0.out.trans (HTa.out.mono hgsl),by rw [hgs];have:=HTV1_z38.out.size;omega,heap_alloc_new _ _,own_belowI HOG.out hA,own_belowI HOL.out hA,own_belowI HOC.out hA,hneq⟩
   refine RG.wpL_step (i:=12) (by kernel_rfl) (by rfl) (by rfl) (fun KX hK => ?_)
   have HK:=ζ hK
   clear hK;go_simp;refine HK.out _ _ HTa.out (fun _ => trivial) ?_
   clear HK KX hA;try simp only [Act.put,lA,lB,lC,lD,lE,lF]
   have hgmX:=HTV1_z38.out.size
   generalize V1_z38.alloc _ = Yz at *;generalize V1_z38.heap.size = gm at *;refine RG.wpL_take (fuel:=0) (a':=?Az40) [13] (by kernel_rfl) (by kernel_rfl) (fun _ _ _ _ _ h => h) HTa.out (fun _ => trivial) ?rz40 ?_
   case rz40 =>
    refine RG.rW ?_ (fun Z hT => ?_) ?_
    rotate_left
    ·go_simp
     rfl
    simp only [Act.put,lA,lB,lC,lD,lE,lF]
    exact RG.RunsIf.nil
   refine RG.wpL_done (by kernel_rfl) ?_ _
   refine NoPanic.normal ?_
   exact HR.out gm bG bL bC Yz HBM.out HTa.out hgmX
 ·have HK:=ζ hK
  clear hK;refine wp_make_full Yz22 _ _ 24 (by rfl) w.heap.size 3 i3 (.int .i64 0) 1 Try.underlying24 hi3 hz30 hz31 .i64 .i64 (cn : Int) (cn : Int) cn (by rfl) (by rfl) rfl rfl (by rw [hz32];omega) (by unfold maxLen;omega) (by rw [hgs];have:=HTz22.out.size;omega) ?_
  intro V3_z41 hown hgrow
  rw [made_rep _ rfl] at hown;have HTV3_z41 : Hid (Below X.heap.size X V3_z41):=HTz22.out.grown hgrow HTz22.out.size (by intro k h;cases h)
  have HOC:=ζ hown
  have hltC_ : Yz22.heap.size < V3_z41.heap.size:=own_lt hown _ rfl
  refine HK.out _ _ HTV3_z41.out (fun _ => trivial) ?_
  clear HK KX hown hgrow;try simp only [Act.put,lA,lB,lC,lD,lE,lF]
  generalize hqC : Yz22.heap.size = bC at *;refine RG.wpL_pair (i:=4) (j:=7) (by kernel_rfl) (by rfl) (by rfl) (by rfl) (by rfl) (fun KX hK => ?_) (fun KX hK => ?_)
  ·have HK:=ζ hK
   clear hK;refine wp_make_full V3_z41 _ _ 24 (by rfl) w.heap.size 3 i3 (.int .i64 0) 1 Try.underlying24 hi3 hz30 hz31 .i64 .i64 (gn : Int) (gn : Int) gn (by rfl) (by rfl) rfl rfl (by rw [hz32];omega) (by unfold maxLen;omega) (by rw [hgs];have:=HTV3_z41.out.size;omega) ?_
   intro V2_z42 hown hgrow
   rw [made_rep _ rfl] at hown;have HTV2_z42 : Hid (Below X.heap.size X V2_z42):=HTV3_z41.out.grown hgrow HTV3_z41.out.size (by intro k h;cases h)
   have HOC_:=ζ (own_grownT HOC.out hgrow (fun _ _ h => by cases h))
   clear HOC;have HOC:=HOC_
   clear HOC_;have HOG:=ζ hown
   have hltG_ : V3_z41.heap.size < V2_z42.heap.size:=own_lt hown _ rfl
   refine HK.out _ _ HTV2_z42.out (fun _ => trivial) ?_
   clear HK KX hown hgrow;try simp only [Act.put,lA,lB,lC,lD,lE,lF]
   generalize hqG : V3_z41.heap.size = bG at *;refine RG.wpL_step (i:=7) (by kernel_rfl) (by rfl) (by rfl) (fun KX hK => ?_)
   have HK:=ζ hK
   clear hK;refine wp_make_full V2_z42 _ _ 53 (by rfl) w.heap.size 4 i4 (.bool false) 1 Try.underlying53 hi4 hz40 hz41 .i64 .i64 (ln : Int) (ln : Int) ln (by rfl) (by rfl) rfl rfl (by rw [hz42];omega) (by unfold maxLen;omega) (by rw [hgs];have:=HTV2_z42.out.size;omega) ?_
   intro V1_z43 hown hgrow
   rw [made_rep _ rfl] at hown;have HTV1_z43 : Hid (Below X.heap.size X V1_z43):=HTV2_z42.out.grown hgrow HTV2_z42.out.size (by intro k h;cases h)
   have HOC_:=ζ (own_grownT HOC.out hgrow (fun _ _ h => by cases h))
   clear HOC;have HOC:=HOC_
   clear HOC_;have HOG_:=ζ (own_grownT HOG.out hgrow (fun _ _ h => by cases h))
   clear HOG;have HOG:=HOG_
   clear HOG_;have HOL:=ζ hown
   have hltL_ : V2_z42.heap.size < V1_z43.heap.size:=own_lt hown _ rfl
   refine HK.out _ _ HTV1_z43.out (fun _ => trivial) ?_
   clear HK KX hown hgrow;try simp only [Act.put,lA,lB,lC,lD,lE,lF]
   generalize hqL : V2_z42.heap.size = bL at *;have hneq : bG ≠ bC:=by omega
   refine RG.wpL_take (fuel:=2) (a':=?Az44) [11] (by kernel_rfl) (by kernel_rfl) (fun _ _ _ _ _ h => h) HTV1_z43.out (fun _ => trivial) ?rz44 ?_
   case rz44 =>
    refine RG.rW (.agg #[.slice pa s.progs.length pc,.slice none 0 0,.slice none 0 0,.slice (some ⟨bG,0,none⟩) gn gn,.slice (some ⟨bL,0,none⟩) ln ln,.slice (some ⟨bC,0,none⟩) cn cn,.slice none 0 0,.slice none 0 0]) (fun Z hT => ?_) ?_
    ·go_simp
    simp only [Act.put,lA,lB,lC,lD,lE,lF]
    exact RG.RunsIf.nil
   have hA : Below V1_z43.heap.size V1_z43 (V1_z43.alloc (.cells #[.slice pa s.progs.length pc,.slice none 0 0,.slice none 0 0,.slice (some ⟨bG,0,none⟩) gn gn,.slice (some ⟨bL,0,none⟩) ln ln,.slice (some ⟨bC,0,none⟩) cn cn,.slice none 0 0,.slice none 0 0] 55)):=(Below.refl _ _).alloc (Nat.le_refl _) _
   have HTa : Hid (Below X.heap.size X (V1_z43.alloc (.cells #[.slice pa s.progs.length pc,.slice none 0 0,.slice none 0 0,.slice (some ⟨bG,0,none⟩) gn gn,.slice (some ⟨bL,0,none⟩) ln ln,.slice (some ⟨bC,0,none⟩) cn cn,.slice none 0 0,.slice none 0 0] 55))):=HTV1_z43.out.trans (hA.mono HTV1_z43.out.size)
   have HBM : Hid (BM w (V1_z43.alloc (.cells #[.slice pa s.progs.length pc,.slice none 0 0,.slice none 0 0,.slice (some ⟨bG,0,none⟩) gn gn,.slice (some ⟨bL,0,none⟩) ln ln,.slice (some ⟨bC,0,none⟩) cn cn,.slice none 0 0,.slice none 0 0] 55)) V1_z43.heap.size bG bL bC s pa pc (.slice none 0 0) (.slice none 0 0) gn ln cn):=⟨by rw [hgs];exact HB0.out.trans (HTa.out.mono hgsl),by rw [hgs];have:=HTV1_z43.out.size;omega,heap_alloc_new _ _,own_belowI HOG.out hA,own_belowI HOL.out hA,own_belowI HOC.out hA,hneq⟩
   refine RG.wpL_step (i:=12) (by kernel_rfl) (by rfl) (by rfl) (fun KX hK => ?_)
   have HK:=ζ hK
   clear hK;go_simp;refine HK.out _ _ HTa.out (fun _ => trivial) ?_
   clear HK KX hA;try simp only [Act.put,lA,lB,lC,lD,lE,lF]
   have hgmX:=HTV1_z43.out.size
   generalize V1_z43.alloc _ = Yz at *;generalize V1_z43.heap.size = gm at *;refine RG.wpL_take (fuel:=0) (a':=?Az45) [13] (by kernel_rfl) (by kernel_rfl) (fun _ _ _ _ _ h => h) HTa.out (fun _ => trivial) ?rz45 ?_
   case rz45 =>
    refine RG.rW ?_ (fun Z hT => ?_) ?_
    rotate_left
    ·go_simp
     rfl
    simp only [Act.put,lA,lB,lC,lD,lE,lF]
    exact RG.RunsIf.nil
   refine RG.wpL_done (by kernel_rfl) ?_ _
   refine NoPanic.normal ?_
   exact HR.out gm bG bL bC Yz HBM.out HTa.out hgmX
  ·have HK:=ζ hK
   clear hK;refine wp_make_full V3_z41 _ _ 53 (by rfl) w.heap.size 4 i4 (.bool false) 1 Try.underlying53 hi4 hz40 hz41 .i64 .i64 (ln : Int) (ln : Int) ln (by rfl) (by rfl) rfl rfl (by rw [hz42];omega) (by unfold maxLen;omega) (by rw [hgs];have:=HTV3_z41.out.size;omega) ?_
   intro V2_z46 hown hgrow
   rw [made_rep _ rfl] at hown;have HTV2_z46 : Hid (Below X.heap.size X V2_z46):=HTV3_z41.out.grown hgrow HTV3_z41.out.size (by intro k h;cases h)
   have HOC_:=ζ (own_grownT HOC.out hgrow (fun _ _ h => by cases h))
   clear HOC;have HOC:=HOC_
   clear HOC_;have HOL:=ζ hown
   have hltL_ : V3_z41.heap.size < V2_z46.heap.size:=own_lt hown _ rfl
   refine HK.out _ _ HTV2_z46.out (fun _ => trivial) ?_
   clear HK KX hown hgrow;try simp only [Act.put,lA,lB,lC,lD,lE,lF]
   generalize hqL : V3_z41.heap.size = bL at *;refine RG.wpL_step (i:=4) (by kernel_rfl) (by rfl) (by rfl) (fun KX hK => ?_)
   have HK:=ζ hK
   clear hK;refine wp_make_full V2_z46 _ _ 24 (by rfl) w.heap.size 3 i3 (.int .i64 0) 1 Try.underlying24 hi3 hz30 hz31 .i64 .i64 (gn : Int) (gn : Int) gn (by rfl) (by rfl) rfl rfl (by rw [hz32];omega) (by unfold maxLen;omega) (by rw [hgs];have:=HTV2_z46.out.size;omega) ?_
   intro V1_z47 hown hgrow
   rw [made_rep _ rfl] at hown;have HTV1_z47 : Hid (Below X.heap.size X V1_z47):=HTV2_z46.out.grown hgrow HTV2_z46.out.size (by intro k h;cases h)
   have HOC_:=ζ (own_grownT HOC.out hgrow (fun _ _ h => by cases h))
   clear HOC;have HOC:=HOC_
   clear HOC_;have HOL_:=ζ (own_grownT HOL.out hgrow (fun _ _ h => by cases h))
   clear HOL;have HOL:=HOL_
   clear HOL_;have HOG:=ζ hown
   have hltG_ : V2_z46.heap.size < V1_z47.heap.size:=own_lt hown _ rfl
   refine HK.out _ _ HTV1_z47.out (fun _ => trivial) ?_
   clear HK KX hown hgrow;try simp only [Act.put,lA,lB,lC,lD,lE,lF]
   generalize hqG : V2_z46.heap.size = bG at *;have hneq : bG ≠ bC:=by omega
   refine RG.wpL_take (fuel:=2) (a':=?Az48) [11] (by kernel_rfl) (by kernel_rfl) (fun _ _ _ _ _ h => h) HTV1_z47.out (fun _ => trivial) ?rz48 ?_
   case rz48 =>
    refine RG.rW (.agg #[.slice pa s.progs.length pc,.slice none 0 0,.slice none 0 0,.slice (some ⟨bG,0,none⟩) gn gn,.slice (some ⟨bL,0,none⟩) ln ln,.slice (some ⟨bC,0,none⟩) cn cn,.slice none 0 0,.slice none 0 0]) (fun Z hT => ?_) ?_
    ·go_simp
    simp only [Act.put,lA,lB,lC,lD,lE,lF]
    exact RG.RunsIf.nil
   have hA : Below V1_z47.heap.size V1_z47 (V1_z47.alloc (.cells #[.slice pa s.progs.length pc,.slice none 0 0,.slice none 0 0,.slice (some ⟨bG,0,none⟩) gn gn,.slice (some ⟨bL,0,none⟩) ln ln,.slice (some ⟨bC,0,none⟩) cn cn,.slice none 0 0,.slice none 0 0] 55)):=(Below.refl _ _).alloc (Nat.le_refl _) _
   have HTa : Hid (Below X.heap.size X (V1_z47.alloc (.cells #[.slice pa s.progs.length pc,.slice none 0 0,.slice none 0 0,.slice (some ⟨bG,0,none⟩) gn gn,.slice (some ⟨bL,0,none⟩) ln ln,.slice (some ⟨bC,0,none⟩) cn cn,.slice none 0 0,.slice none 0 0] 55))):=HTV1_z47.out.trans (hA.mono HTV1_z47.out.size)
   have HBM : Hid (BM w (V1_z47.alloc (.cells #[.slice pa s.progs.length pc,.slice none 0 0,.slice none 0 0,.slice (some ⟨bG,0,none⟩) gn gn,.slice (some ⟨bL,0,none⟩) ln ln,.slice (some ⟨bC,0,none⟩) cn cn,.slice none 0 0,.slice none 0 0] 55)) V1_z47.heap.size bG bL bC s pa pc (.slice none 0 0) (.slice none 0 0) gn ln cn):=⟨by rw [hgs];exact HB0.out.trans (HTa.out.mono hgsl),by rw [hgs];have:=HTV1_z47.out.size;omega,heap_alloc_new _ _,own_belowI HOG.out hA,own_belowI HOL.out hA,own_belowI HOC.out hA,hneq⟩
   refine RG.wpL_step (i:=12) (by kernel_rfl) (by rfl) (by rfl) (fun KX hK => ?_)
   have HK:=ζ hK
   clear hK;go_simp;refine HK.out _ _ HTa.out (fun _ => trivial) ?_
   clear HK KX hA;try simp only [Act.put,lA,lB,lC,lD,lE,lF]
   have hgmX:=HTV1_z47.out.size
   generalize V1_z47.alloc _ = Yz at *;generalize V1_z47.heap.size = gm at *;refine RG.wpL_take (fuel:=0) (a':=?Az49) [13] (by kernel_rfl) (by kernel_rfl) (fun _ _ _ _ _ h => h) HTa.out (fun _ => trivial) ?rz49 ?_
   case rz49 =>
    refine RG.rW ?_ (fun Z hT => ?_) ?_
    rotate_left
    ·go_simp
     rfl
    simp only [Act.put,lA,lB,lC,lD,lE,lF]
    exact RG.RunsIf.nil
   refine RG.wpL_done (by kernel_rfl) ?_ _
   refine NoPanic.normal ?_
   exact HR.out gm bG bL bC Yz HBM.out HTa.out hgmX
end LW
end Go.Proofs.Ytfbnakmmmphedaa
