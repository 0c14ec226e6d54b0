/-
 Rows that the shelf's calls leave; a queue (a slice that begins behind its block's start); a map of edges.
-/
import Derived.Maps.AppendAt
import Derived.Maps.OwnSet
import Derived.Sort.Grow
import Derived.OwnWalk
set_option linter.unusedVariables false
set_option linter.unusedSimpArgs false
set_option maxRecDepth 100000
namespace Go.Proofs.Ythcndgnpmefefaa
open Go Go.RowKit Go.Sort
open Go.Maps (Keyed)
namespace LW
theorem putRow_at {W : World} {g : Nat} {cur : Array Value} {t : TypeId} {fr : Nat × Nat} (hg : W.heap[g]? = some (.cells cur t fr)) (d : List Int) : (putRow (Value.int .i64) W g 0 d.toArray).heap[g]? = some (.cells (putCells (Value.int .i64) 0 d.toArray cur) t fr):=by
 unfold putRow mapBlock
 dsimp only
 rw [Array.getElem?_modify,if_pos rfl,hg]
 rfl
theorem putRow_off (W : World) (g k : Nat) (d : List Int) (h : k ≠ g) : (putRow (Value.int .i64) W g 0 d.toArray).heap[k]? = W.heap[k]?:=by
 unfold putRow mapBlock
 dsimp only
 rw [Array.getElem?_modify,if_neg (fun e => h e.symm)]
theorem putCells_take (d : List Int) (cur : Array Value) (h : d.length ≤ cur.size) : (putCells (Value.int .i64) 0 d.toArray cur).toList.take d.length = d.map (Value.int .i64):=by
 apply List.ext_getElem?
 intro k
 by_cases hk : k < d.length
 ·have hc : k < cur.size:=by omega
  rw [List.getElem?_take_of_lt hk,Array.getElem?_toList,List.getElem?_map,List.getElem?_eq_getElem hk]
  unfold putCells
  rw [Array.getElem?_mapIdx,Array.getElem?_eq_getElem hc,Option.map_some,if_pos ⟨Nat.zero_le _,by simpa using hk⟩]
  simp [hk]
 ·rw [List.getElem?_eq_none (by rw [List.length_take];omega),List.getElem?_eq_none (by rw [List.length_map];omega)]
theorem own_put {W : World} {base g n cap : Nat} {t : TypeId} {xs : List Value} (h : W.ownsRow base t 1 (.slice (some ⟨g,0,none⟩) n cap) n xs) (d : List Int) (hd : d.length = n) : (putRow (Value.int .i64) W g 0 d.toArray).ownsRow base t 1 (.slice (some ⟨g,0,none⟩) n cap) n (d.map (Value.int .i64)):=by
 refine ⟨by rw [List.length_map,hd,Nat.mul_one],?_⟩
 rcases h.2 with ⟨e,_⟩ | ⟨g2,cap2,cur,e,h1,h2,h3,h4,h5,h6⟩
 ·cases e
 ·injection e with e1 _ e3
  injection e1 with e1
  injection e1 with e1
  subst e1 e3
  refine .inr ⟨g,cap,_,rfl,h1,putRow_at h2 d,h3,h4,?_,?_⟩
  ·unfold putCells
   rw [Array.size_mapIdx]
   exact h5
  ·rw [Nat.mul_one,← hd]
   exact putCells_take d cur (by omega)
theorem own_holds {W : World} {base g n cap : Nat} {t : TypeId} {zs : List Int} (h : W.ownsRow base t 1 (.slice (some ⟨g,0,none⟩) n cap) n (zs.map (Value.int .i64))) : Holds (Value.int .i64) W g 0 zs.toArray:=by
 intro j hj
 have hj' : j < zs.length:=by simpa using hj
 have hc:=h.cells (g:=g) rfl j (.int .i64 (zs.toArray[j]!)) (by rw [List.getElem?_map,List.getElem?_eq_getElem hj'];simp [hj'])
 have ea : (⟨g,0,none⟩ : Addr).add j = ⟨g,0 + j,none⟩:=by unfold Addr.add;split <;> simp_all
 rw [ea] at hc
 refine ⟨hc,?_⟩
 rcases h.2 with ⟨e,_⟩ | ⟨g2,cap2,cur,e,h1,h2,_⟩
 ·cases e
 ·injection e with e1 _ _
  injection e1 with e1
  injection e1 with e1
  subst e1
  unfold World.frozen?
  rw [h2]
  simp
theorem below_put {W0 W : World} {B g : Nat} (h : Below B W0 W) (hg : B ≤ g) (d : List Int) : Below B W0 (putRow (Value.int .i64) W g 0 d.toArray) :=
 ⟨h.os,h.tape,h.output,by rw [size_putRow];exact h.size,fun k hk => by rw [putRow_off _ _ _ _ (by omega)];exact h.block k hk⟩
theorem below_ahead {W0 W : World} {B : Nat} (h : Below B W0 W) (n : Nat) : Below B W0 (Go.Sort.ahead W n):=⟨h.os,h.tape,h.output,h.size,h.block⟩
theorem below_grow {W0 W : World} {B : Nat} (h : Below B W0 W) (hB : B ≤ W.heap.size) (os : Array Obj) : Below B W0 (grow W os) :=
 ⟨h.os,h.tape,h.output,by rw [size_grow];have:=h.size;omega,fun k hk => by
  rw [← h.block k hk]
  unfold grow
  dsimp only
  rw [Array.getElem?_append_left (by omega)]⟩
theorem own_grow {W : World} {base n k : Nat} {t : TypeId} {v : Value} {xs : List Value} (h : W.ownsRow base t k v n xs) (os : Array Obj) : (grow W os).ownsRow base t k v n xs:=by
 refine ⟨h.1,?_⟩
 rcases h.2 with h2 | ⟨g,cap,cur,e,h1,h2,h3⟩
 ·exact .inl h2
 ·refine .inr ⟨g,cap,cur,e,h1,?_,h3⟩
  unfold grow
  dsimp only
  rw [Array.getElem?_append_left (by rcases Nat.lt_or_ge g W.heap.size with h | h;exact h;rw [Array.getElem?_eq_none h] at h2;cases h2)]
  exact h2
def OQ (w : World) (base : Nat) (e : TypeId) (size : Nat) (v : Value) (n : Nat) (xs : List Value) : Prop :=
 xs.length = n * size ∧ ∃ g p cap cur,v = .slice (some ⟨g,p * size,none⟩) n cap ∧ base ≤ g ∧ w.heap[g]? = some (.cells cur e (0,0)) ∧ n ≤ cap ∧ cap ≤ maxLen ∧ (p + cap) * size ≤ cur.size ∧ (cur.toList.drop (p * size)).take (n * size) = xs
theorem OQ.keep {w w' : World} {base : Nat} {e : TypeId} {size : Nat} {v : Value} {n : Nat} {xs : List Value} (h : OQ w base e size v n xs) (hk : ∀ g,v.ownBlock = some g → w'.heap[g]? = w.heap[g]?) : OQ w' base e size v n xs:=by
 obtain ⟨h1,g,p,cap,cur,rfl,h2,h3,h4⟩:=h
 exact ⟨h1,g,p,cap,cur,rfl,h2,by rw [hk g rfl];exact h3,h4⟩
theorem OQ.lt {w : World} {base : Nat} {e : TypeId} {size : Nat} {v : Value} {n : Nat} {xs : List Value} (h : OQ w base e size v n xs) : ∀ g,v.ownBlock = some g → base ≤ g ∧ g < w.heap.size:=by
 obtain ⟨h1,g,p,cap,cur,rfl,h2,h3,h4⟩:=h
 intro k hk
 injection hk with hk
 subst hk
 refine ⟨h2,?_⟩
 rcases Nat.lt_or_ge g w.heap.size with h | h
 ·exact h
 ·rw [Array.getElem?_eq_none h] at h3;cases h3
theorem OQ.below {w w' : World} {base : Nat} {e : TypeId} {size : Nat} {v : Value} {n : Nat} {xs : List Value} (h : OQ w base e size v n xs) (hb : Below w.heap.size w w') : OQ w' base e size v n xs:=h.keep (fun g hg => hb.block g (h.lt g hg).2)
theorem OQ.ofAlloc {w : World} {base : Nat} {e : TypeId} {size : Nat} (cs : List Value) (n : Nat) (hb : base ≤ w.heap.size) (hn : n ≤ maxLen) (hs : cs.length = n * size) : OQ (w.alloc (.cells cs.toArray e)) base e size (.slice (some ⟨w.heap.size,0,none⟩) n n) n cs :=
 ⟨hs,w.heap.size,0,n,_,by rw [Nat.zero_mul],hb,heap_alloc_new w _,Nat.le_refl _,hn,by rw [Nat.zero_add];simp [hs],by rw [Nat.zero_mul,List.drop_zero,← hs];simp⟩
theorem OQ.cells {w : World} {base : Nat} {e : TypeId} {size : Nat} {g o n cap : Nat} {xs : List Value} (h : OQ w base e size (.slice (some ⟨g,o,none⟩) n cap) n xs) : ∀ j u,xs[j]? = some u → w.cell? ⟨g,o + j,none⟩ = some u:=by
 obtain ⟨h1,g2,p,cap2,cur,e2,q1,q2,q3,q4,q5,q6⟩:=h
 injection e2 with e3 _ _
 injection e3 with e3
 injection e3 with e3 e4
 subst e3 e4
 intro j u hj
 have hlt : j < xs.length:=(List.getElem?_eq_some_iff.1 hj).1
 have hj2 : j < n * size:=by omega
 rw [← q6,List.getElem?_take_of_lt hj2,List.getElem?_drop,Array.getElem?_toList] at hj
 unfold World.cell?
 rw [q2]
 simpa using hj
theorem OQ.tail {w : World} {base : Nat} {e : TypeId} {size : Nat} {g o n cap : Nat} {xs : List Value} (h : OQ w base e size (.slice (some ⟨g,o,none⟩) (n + 1) cap) (n + 1) xs) : OQ w base e size (.slice (if cap = 1 then some ⟨g,o,none⟩ else some ⟨g,o + size,none⟩) n (cap - 1)) n (xs.drop size):=by
 obtain ⟨h1,g2,p,cap2,cur,e2,q1,q2,q3,q4,q5,q6⟩:=h
 injection e2 with e3 _ e5
 injection e3 with e3
 injection e3 with e3 e4
 subst e3 e4 e5
 have hx : xs.drop size = (cur.toList.drop ((p + 1) * size)).take (n * size):=by
  rw [← q6,List.drop_take,List.drop_drop]
  congr 1
  ·rw [Nat.add_mul,Nat.one_mul,Nat.add_sub_cancel]
  ·rw [Nat.add_mul,Nat.one_mul]
 refine ⟨by rw [List.length_drop,h1,Nat.add_mul,Nat.one_mul];omega,?_⟩
 by_cases hc : cap = 1
 ·subst hc
  rw [if_pos rfl]
  obtain rfl : n = 0:=by omega
  refine ⟨g,p,0,cur,rfl,q1,q2,by omega,Nat.zero_le _,?_,?_⟩
  ·rw [Nat.add_zero]
   rw [Nat.add_mul] at q5
   omega
  ·rw [hx]
   simp
 ·rw [if_neg hc]
  refine ⟨g,p + 1,cap - 1,cur,by rw [Nat.add_mul,Nat.one_mul],q1,q2,by omega,by omega,?_,hx.symm⟩
  rw [show p + 1 + (cap - 1) = p + cap by omega]
  exact q5
section
variable {P : Program} (w : World)
theorem run_append_room_o (t ty e : TypeId) (i : TypeInfo) (ht : P.underlying t = some (.slice e)) (hi : P.info? e = some i)
  (g o sLen sCap : Nat) (cur : Array Value) (hg : w.heap[g]? = some (.cells cur e (0,0)))
  (a : Addr) (m c : Nat) (news : List Value) (hl : news.length = m * i.size) (hnews : ∀ j u,news[j]? = some u → w.cell? (a.add j) = some u) (h1 : ∀ u ∈ news,u.oneCell' = true)
  (hroom : sLen + m ≤ sCap) (hfit : o + sLen * i.size + news.length ≤ cur.size) :
  (Builtin.append_ #[t,t] ty #[.slice (some ⟨g,o,none⟩) sLen sCap,.slice (some a) m c]).run P w =
   .ok (.slice (some ⟨g,o,none⟩) (sLen + m) sCap) (w.setRow g (cur.toList.take (o + sLen * i.size) ++ news ++ cur.toList.drop (o + sLen * i.size + news.length)).toArray):=by
 have hf:=run_firstCells_some (P:=P) w i.size m a m c news hl hnews
 have hst:=run_storeCells_at P g (o + sLen * i.size) e news 0 cur w hg (by simpa using hfit) h1
 simp only [Nat.add_zero] at hst
 simp [Builtin.append_,run_underlying ht,sizeOf,typeInfo,hi,Builtin.lenOf,hroom,hf,Addr.add_lit,hst]
theorem run_append_q (base : Nat) (t ty e : TypeId) (i : TypeInfo) (z : Value) (size bytes : Nat) (ht : P.underlying t = some (.slice e)) (hi : P.info? e = some i) (hz : i.zero = some z)
  (hsize : i.size = size) (hby : i.bytes = bytes) (hzs : z.cells.size = size) (hsz : 0 < size)
  (v : Value) (n : Nat) (xs : List Value) (hown : OQ w base e size v n xs)
  (a : Addr) (m c : Nat) (news : List Value) (hl : news.length = m * size) (hnews : ∀ j u,news[j]? = some u → w.cell? (a.add j) = some u) (h1 : ∀ u ∈ news,u.oneCell' = true)
  (h63 : n + m ≤ maxLen) (hbytes : (n + m) * bytes ≤ 140737488355328) (hbase : base ≤ w.heap.size) :
  ∃ v' w',(Builtin.append_ #[t,t] ty #[v,.slice (some a) m c]).run P w = .ok v' w' ∧ OQ w' base e size v' (n + m) (xs ++ news) ∧ w.grownBy w' v.ownBlock ∧ (v'.ownBlock = v.ownBlock ∨ v'.ownBlock = some w.heap.size):=by
 subst hsize
 subst hby
 have hsmall : n + m ≤ 9223372036854775807:=by simp only [maxLen] at h63;omega
 have hlen : (xs ++ news).length = (n + m) * i.size:=by rw [List.length_append,hown.1,hl,Nat.add_mul]
 obtain ⟨hx1,g,p,cap,cur,rfl,hbg,hg,hnc,hcm,hcs,htake⟩:=hown
 by_cases hroom : n + m ≤ cap
 ·have hpn : p * i.size + n * i.size + news.length ≤ cur.size:=by
   rw [hl,← Nat.add_mul,← Nat.add_mul]
   exact Nat.le_trans (Nat.mul_le_mul_right _ (by omega)) hcs
  have hr:=run_append_room_o (P:=P) w t ty e i ht hi g (p * i.size) n cap cur hg a m c news hl hnews h1 hroom hpn
  refine ⟨_,_,hr,⟨hlen,g,p,cap,_,rfl,hbg,setRow_heap w g cur _ e _ hg,hroom,hcm,?_,?_⟩,⟨rfl,rfl,rfl,by simp,fun k _ hk => setRow_other w g k _ (fun e => hk (by simp [Value.ownBlock,e]))⟩,Or.inl rfl⟩
  ·simp only [List.size_toArray,List.length_append,List.length_take,List.length_drop,Array.length_toList]
   omega
  ·have hfront : cur.toList.take (p * i.size + n * i.size) = cur.toList.take (p * i.size) ++ xs:=by
    rw [List.take_add,htake]
   have hlp : (cur.toList.take (p * i.size)).length = p * i.size:=by
    rw [List.length_take,Array.length_toList]
    omega
   show ((cur.toList.take (p * i.size + n * i.size) ++ news ++ _).drop (p * i.size)).take _ = _
   rw [hfront,List.append_assoc,List.append_assoc,List.drop_append_of_le_length (by rw [hlp];exact Nat.le_refl _),List.drop_eq_nil_of_le (by rw [hlp];exact Nat.le_refl _),List.nil_append,← hlen,← List.append_assoc]
   exact List.take_left
 ·have holds : ∀ j u,xs[j]? = some u → w.cell? ((⟨g,p * i.size,none⟩ : Addr).add j) = some u:=fun j u hj => by
   have:=OQ.cells (w:=w) (base:=base) (e:=e) (size:=i.size) (g:=g) (o:=p * i.size) (n:=n) (cap:=cap) (xs:=xs) ⟨hx1,g,p,cap,cur,rfl,hbg,hg,hnc,hcm,hcs,htake⟩ j u hj
   have ea : (⟨g,p * i.size,none⟩ : Addr).add j = ⟨g,p * i.size + j,none⟩:=by unfold Addr.add;split <;> simp_all
   rw [ea]
   exact this
  have hr:=run_append_grow (P:=P) w t ty e i z ht hi hz ⟨g,p * i.size,none⟩ n cap xs hx1 holds a m c news hl hnews (by omega) (by omega) (growslice_fits (by omega) hbytes)
  have hge:=grownCap_ge w (n + m) cap e
  have hcm2 : grownCap w (n + m) cap e ≤ maxLen:=grownCap_le_maxLen w (n + m) cap e h63
  refine ⟨_,_,hr,⟨hlen,w.heap.size,0,_,_,by rw [Nat.zero_mul],hbase,heap_alloc_new w.drew _,hge,hcm2,?_,?_⟩,⟨rfl,rfl,rfl,by simp,fun k hk _ => heap_alloc_old w.drew _ k hk⟩,Or.inr rfl⟩
  ·simp only [Array.size_append,List.size_toArray,size_zeroCells,hzs,hx1,hl,← Nat.add_mul,Nat.zero_add]
   refine Nat.le_of_eq ?_
   congr 1
   omega
  ·simp only [Array.toList_append,List.append_assoc]
   rw [← List.append_assoc,Nat.zero_mul,List.drop_zero,← hlen]
   exact List.take_left
theorem wpList_append_q {ops : Array Oper} {rest : List Oper} {o : Oper} {a : Act} {Q : Exit → Act → World → Prop} (hgd : o.guard = none) (s x : Operand) (t : TypeId)
  (ho : o.op = .call { callee:=.builtin .append,args:=#[s,x],argTypes:=#[t,t] })
  (base : Nat) (e : TypeId) (i : TypeInfo) (z : Value) (size bytes : Nat) (ht : P.underlying t = some (.slice e)) (hi : P.info? e = some i) (hz : i.zero = some z)
  (hsize : i.size = size) (hby : i.bytes = bytes) (hzs : z.cells.size = size) (hsz : 0 < size)
  (v : Value) (n : Nat) (xs : List Value) (hs : a.eval s = v) (hown : OQ w base e size v n xs)
  (ad : Addr) (m c : Nat) (news : List Value) (hx : a.eval x = .slice (some ad) m c) (hl : news.length = m * size) (hnews : ∀ j u,news[j]? = some u → w.cell? (ad.add j) = some u) (h1 : ∀ u ∈ news,u.oneCell' = true)
  (h63 : n + m ≤ maxLen) (hbytes : (n + m) * bytes ≤ 140737488355328) (hbase : base ≤ w.heap.size)
  (h : ∀ v' w',OQ w' base e size v' (n + m) (xs ++ news) → w.grownBy w' v.ownBlock → (v'.ownBlock = v.ownBlock ∨ v'.ownBlock = some w.heap.size) → wpList P ops Q rest (a.put o.dst v') w') :
  wpList P ops Q (o :: rest) a w:=by
 refine wpList_plain hgd fun K hK => ?_
 obtain ⟨v',w',hr,h2,h3,h4⟩:=run_append_q (P:=P) w base t o.type e i z size bytes ht hi hz hsize hby hzs hsz v n xs hown ad m c news hl hnews h1 h63 hbytes hbase
 unfold Oper.wp execOp
 simp only [ho,resolve,invoke,builtin,Sem.run_bind,Sem.run_pure,Result.andThen_ok,List.map_toArray,List.map_cons,List.map_nil,hs,hx,hr]
 exact hK _ _ (h v' w' h2 h3 h4)
theorem wpList_insert_own {H : Type} {ops : Array Oper} {rest : List Oper} {o : Oper} {a : Act} {Q : Exit → Act → World → Prop}
  (hg : o.guard = none) (m x v : Operand) (t : TypeId) (hop : o.op = Op.insert t m x v)
  (k e : TypeId) (K : Keyed P k) (ht : P.underlying t = some (.map k e)) (R : Value → Option (DataW H × List MemPlace)) (b n : Nat) (D : DataW H)
  (hm : a.eval m = .map (some b)) (hown : w.ownsMap P k R b n D) (hn : n < maxLen) (key val : Value) (kl : Lit) (hx : a.eval x = key) (hv : a.eval v = val) (hkey : keyOf P k key = some kl)
  (d : DataW H) (ps : List MemPlace) (hval : R val = some (d,ps))
  (hK : ∀ w',w'.ownsMap P k R b (n + 1) (D.put kl d) → w.grownBy w' (some b) → wpList P ops Q rest (a.put o.dst undef) w') :
  wpList P ops Q (o :: rest) a w:=by
 refine wpList_plain hg fun K' hK' => ?_
 obtain ⟨w',hrun,r1,r2⟩:=hown.update K ht hn hkey hval
 unfold Oper.wp
 simp [execOp,hop,hm,hx,hv,hrun,Result.andThen]
 exact hK' _ _ (hK w' r1 r2)
theorem wpList_lookup_own_g {H : Type} {ops : Array Oper} {rest : List Oper} {o : Oper} {a : Act} {Q : Exit → Act → World → Prop}
  (hg : o.guard = none) (m x : Operand) (t : TypeId) (hop : o.op = Op.lookup t m x false)
  (k e : TypeId) (K : Keyed P k) (ht : P.underlying t = some (.map k e)) (R : Value → Option (DataW H × List MemPlace)) {z : Value} (hz : (zeroValue e).run P w = .ok z w) (zd : DataW H) (zp : List MemPlace) (hzd : R z = some (zd,zp)) (b n : Nat) (D : DataW H)
  (hm : a.eval m = .map (some b)) (hown : w.ownsMap P k R b n D) (key : Value) (kl : Lit) (hx : a.eval x = key) (hkey : keyOf P k key = some kl)
  (hK : ∀ v ps,R v = some (D.atKey kl zd,ps) → wpList P ops Q rest (a.put o.dst v) w) :
  wpList P ops Q (o :: rest) a w:=by
 refine wpList_plain hg fun K' hK' => ?_
 obtain ⟨v,ps,hrun,hv⟩:=hown.lookup K ht hz hzd hkey
 unfold Oper.wp
 simp [execOp,hop,hm,hx,hrun,Result.andThen]
 exact hK' _ _ (hK v ps hv)
end
def edR (v : Value) : Option (DataW Unit × List MemPlace):=match v with
 | .agg cs => match cs.toList with
  | [.int .i64 f,.int .i64 t] => some (.agg [.lit (.int .i64 f),.lit (.int .i64 t)],[])
  | _ => none
 | _ => none
theorem edR_mk (f t : Int) : edR (.agg #[.int .i64 f,.int .i64 t]) = some (.agg [.lit (.int .i64 f),.lit (.int .i64 t)],[]):=rfl
theorem edR_inv {v : Value} {f t : Int} {ps : List MemPlace} (h : edR v = some (.agg [.lit (.int .i64 f),.lit (.int .i64 t)],ps)) : v = .agg #[.int .i64 f,.int .i64 t]:=by
 unfold edR at h
 split at h
 ·rename_i cs
  split at h
  ·rename_i f2 t2 hc
   simp at h
   obtain ⟨⟨rfl,rfl⟩,_⟩:=h
   congr 1
   rw [← Array.toList_inj]
   exact hc
  ·cases h
 ·cases h
end LW
end Go.Proofs.Ythcndgnpmefefaa
