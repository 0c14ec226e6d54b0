/-
 Rows of one's own, structs in rows, queues: what is kept and what is changed.
-/
import Derived.Test.YtfbnakmmmphedaaSyAo
import Derived.Maps.AppendAt
import Derived.ArgAppend
set_option linter.unusedVariables false
set_option linter.unusedSimpArgs false
namespace Go.Proofs.Ytfbnakmmmphedaa
open List renaming getD_eq_getElem?_getD → gDQ
open Go.RowKit
namespace LW
open Mc
theorem intinfo : (Try.prog.info? 3).map (fun i => (i.zero,i.size,i.bytes)) = some (some (.int .i64 0),1,8):=by kernel_rfl
theorem info_parts' {P : Program} {ty : TypeId} {z : Value} {n m : Nat} (h : (P.info? ty).map (fun i => (i.zero,i.size,i.bytes)) = some (some z,n,m)) : ∃ i,P.info? ty = some i ∧ i.zero = some z ∧ i.size = n ∧ i.bytes = m:=by
 cases hi : P.info? ty with
 | none => rw [hi] at h;cases h
 | some i =>
  rw [hi] at h;simp at h
  exact ⟨i,rfl,h.1,h.2.1,h.2.2⟩
def natV (l : List Nat) : List Value:=l.map (fun (k : Nat) => Value.int .i64 (k : Int))
theorem filter_more (p : Nat → Bool) (k : Nat) : (List.range (k + 1)).filter p = if p k then (List.range k).filter p ++ [k] else (List.range k).filter p:=by
 rw [List.range_succ,List.filter_append]
 by_cases h : p k <;> simp [h]
theorem own_blkI {w : World} {B n s : Nat} {t : TypeId} {v : Value} {xs : List Value} (h : w.ownsRow B t s v n xs) : ∀ k,v.ownBlock = some k → B ≤ k:=by
 intro k hk
 rcases h.2 with ⟨rfl,_⟩ | ⟨g,cap,cur,rfl,hg,_⟩
 ·simp [Value.ownBlock] at hk
 ·simp [Value.ownBlock] at hk;omega
theorem own_belowI {w w' : World} {B n s : Nat} {t : TypeId} {v : Value} {xs : List Value} (h : w.ownsRow B t s v n xs) (hb : Below w.heap.size w w') : w'.ownsRow B t s v n xs:=by
 rcases h.2 with ⟨rfl,h0⟩ | ⟨g,cap,cur,rfl,hg,hh,hn,hm,hc,ht⟩
 ·exact ⟨h.1,.inl ⟨rfl,h0⟩⟩
 ·exact ⟨h.1,.inr ⟨g,cap,cur,rfl,hg,blk_keep hh hb,hn,hm,hc,ht⟩⟩
theorem own_read1 {w : World} {B n : Nat} {t : TypeId} {v : Value} {α : Type} {f : α → Value} {l : List α} (d : α) (h : w.ownsRow B t 1 v n (l.map f)) (hn : l.length = n) : ∃ a c,v = .slice a n c ∧ (l = [] ∨ ∃ b,a = some ⟨b,0,none⟩ ∧ ∀ k,k < l.length → w.cell? ⟨b,k,none⟩ = some (f (l.getD k d))):=by
 rcases h.2 with ⟨rfl,h0⟩ | ⟨g,cap,cur,rfl,hg,hh,hn',hm,hc,ht⟩
 ·exact ⟨none,0,by rw [h0],.inl (List.length_eq_zero_iff.1 (by omega))⟩
 ·refine ⟨_,cap,rfl,.inr ⟨g,rfl,fun k hk => blk_cell hh ?_⟩⟩
  have h1 : (cur.toList.take (n * 1))[k]? = (l.map f)[k]?:=by rw [ht]
  rw [List.getElem?_take,if_pos (by omega),List.getElem?_map,List.getElem?_eq_getElem hk] at h1
  rw [gDQ,List.getElem?_eq_getElem hk];simpa using h1
theorem own_setN {w : World} {B n s p o : Nat} {t t' : TypeId} {fr : Nat × Nat} {v u : Value} {xs : List Value} {cs : Array Value} (h : w.ownsRow B t s v n xs) (hp : w.heap[p]? = some (.cells cs t' fr)) (ht : t ≠ t') : (w.setCell ⟨p,o,none⟩ u).ownsRow B t s v n xs:=by
 rcases h.2 with ⟨rfl,h0⟩ | ⟨g,cap,cur,rfl,hg,hh,hn,hm,hc,htk⟩
 ·exact ⟨h.1,.inl ⟨rfl,h0⟩⟩
 ·refine ⟨h.1,.inr ⟨g,cap,cur,rfl,hg,?_,hn,hm,hc,htk⟩⟩
  rw [Below.heap_setCell _ _ _ g ?_]
  ·exact hh
  ·rintro rfl
   have:=hh.symm.trans hp
   simp at this
   exact ht this.2.1
theorem own_setB {w : World} {B n s p o : Nat} {t : TypeId} {v u : Value} {xs : List Value} (h : w.ownsRow B t s v n xs) (hp : v.ownBlock ≠ some p) : (w.setCell ⟨p,o,none⟩ u).ownsRow B t s v n xs:=by
 rcases h.2 with ⟨rfl,h0⟩ | ⟨g,cap,cur,rfl,hg,hh,hn,hm,hc,htk⟩
 ·exact ⟨h.1,.inl ⟨rfl,h0⟩⟩
 ·refine ⟨h.1,.inr ⟨g,cap,cur,rfl,hg,?_,hn,hm,hc,htk⟩⟩
  rw [Below.heap_setCell _ _ _ g ?_]
  ·exact hh
  ·rintro rfl
   exact hp (by simp [Value.ownBlock])
theorem own_at {w : World} {B n s : Nat} {t : TypeId} {v : Value} {xs : List Value} (h : w.ownsRow B t s v n xs) (hn : 0 < n) : ∃ b cap cur,v = .slice (some ⟨b,0,none⟩) n cap ∧ B ≤ b ∧ w.heap[b]? = some (.cells cur t (0,0)):=by
 rcases h.2 with ⟨_,h0⟩ | ⟨g,cap,cur,rfl,hg,hh,_⟩
 ·omega
 ·exact ⟨g,cap,cur,rfl,hg,hh⟩
theorem blk_setN {w : World} {g p o : Nat} {t t' : TypeId} {fr fr' : Nat × Nat} {u : Value} {cs cs' : Array Value} (h : w.heap[g]? = some (.cells cs t fr)) (hp : w.heap[p]? = some (.cells cs' t' fr')) (ht : t ≠ t') : (w.setCell ⟨p,o,none⟩ u).heap[g]? = some (.cells cs t fr):=by
 rw [Below.heap_setCell _ _ _ g ?_]
 ·exact h
 ·rintro rfl
  have:=h.symm.trans hp
  simp at this
  exact ht this.2.1
def qn (qs : List Value) (c : Nat) : Value:=qs.getD c (.slice none 0 0)
theorem row_is {w : World} {B n s b cap : Nat} {t : TypeId} {v : Value} {xs : List Value} (h : w.ownsRow B t s v n xs) (he : v = .slice (some ⟨b,0,none⟩) n cap) (hn : 0 < n) : B ≤ b ∧ ∃ cur,w.heap[b]? = some (.cells cur t (0,0)):=by
 obtain ⟨b',cap',cur,e,hB,hh⟩:=own_at h hn
 rw [he] at e
 injection e with e1 e2 e3
 injection e1 with e1
 injection e1 with e1
 subst e1
 exact ⟨hB,cur,hh⟩
theorem own_grownT {w w' : World} {row : Option Nat} {B n s : Nat} {t : TypeId} {v : Value} {xs : List Value} (h : w.ownsRow B t s v n xs) (hg : w.grownBy w' row) (hne : ∀ k,v.ownBlock = some k → row ≠ some k) : w'.ownsRow B t s v n xs:=by
 rcases h.2 with ⟨rfl,h0⟩ | ⟨g,cap,cur,rfl,hg',hh,hn,hm,hc,ht⟩
 ·exact ⟨h.1,.inl ⟨rfl,h0⟩⟩
 ·exact ⟨h.1,.inr ⟨g,cap,cur,rfl,hg',by rw [hg.block g (blk_lt hh) (Ne.symm (hne g (by simp [Value.ownBlock])))];exact hh,hn,hm,hc,ht⟩⟩
theorem own_neT {w : World} {B B' n n' s s' : Nat} {t t' : TypeId} {v v' : Value} {xs xs' : List Value} (h : w.ownsRow B t s v n xs) (h' : w.ownsRow B' t' s' v' n' xs') (ht : t ≠ t') : ∀ k,v.ownBlock = some k → v'.ownBlock ≠ some k:=by
 intro k hk hk'
 rcases h.2 with ⟨rfl,_⟩ | ⟨g,cap,cur,rfl,_,hh,_⟩
 ·simp [Value.ownBlock] at hk
 rcases h'.2 with ⟨rfl,_⟩ | ⟨g',cap',cur',rfl,_,hh',_⟩
 ·simp [Value.ownBlock] at hk'
 simp [Value.ownBlock] at hk hk'
 subst hk hk'
 have:=hh.symm.trans hh'
 simp at this
 exact ht this.2
theorem own_neB {w : World} {B n s g : Nat} {t t' : TypeId} {fr : Nat × Nat} {v : Value} {xs : List Value} {cs : Array Value} (h : w.ownsRow B t s v n xs) (hg : w.heap[g]? = some (.cells cs t' fr)) (ht : t ≠ t') : v.ownBlock ≠ some g:=by
 intro hk
 rcases h.2 with ⟨rfl,_⟩ | ⟨g',cap,cur,rfl,_,hh,_⟩
 ·simp [Value.ownBlock] at hk
 ·simp [Value.ownBlock] at hk
  subst hk;have:=hh.symm.trans hg
  simp at this
  exact ht this.2.1
theorem own_lt {w : World} {B n s : Nat} {t : TypeId} {v : Value} {xs : List Value} (h : w.ownsRow B t s v n xs) : ∀ b,v.ownBlock = some b → b < w.heap.size:=by
 intro b hb
 rcases h.2 with ⟨rfl,_⟩ | ⟨g,cap,cur,rfl,_,hh,_⟩
 ·simp [Value.ownBlock] at hb
 ·simp [Value.ownBlock] at hb
  subst hb;exact blk_lt hh
theorem own_keepK {w w' : World} {B n s : Nat} {t : TypeId} {v : Value} {xs : List Value} (h : w.ownsRow B t s v n xs) (hk : ∀ b,v.ownBlock = some b → w'.heap[b]? = w.heap[b]?) : w'.ownsRow B t s v n xs:=by
 rcases h.2 with ⟨rfl,h0⟩ | ⟨g,cap,cur,rfl,hg,hh,hn,hm,hc,ht⟩
 ·exact ⟨h.1,.inl ⟨rfl,h0⟩⟩
 ·exact ⟨h.1,.inr ⟨g,cap,cur,rfl,hg,by rw [hk g (by simp [Value.ownBlock])];exact hh,hn,hm,hc,ht⟩⟩
theorem qn_set (qs : List Value) (c d : Nat) (v : Value) (hc : c < qs.length) : qn (qs.set c v) d = if c = d then v else qn qs d:=by
 unfold qn
 rw [getD_set]
 by_cases h : c = d
 ·rw [if_pos ⟨h,hc⟩,if_pos h]
 ·rw [if_neg (fun hh => h hh.1),if_neg h]
theorem own_rd {w : World} {B n s : Nat} {t : TypeId} {v : Value} {xs : List Value} (h : w.ownsRow B t s v n xs) (hn : 0 < n) : ∃ b cap,v = .slice (some ⟨b,0,none⟩) n cap ∧ B ≤ b ∧ (∃ cur,w.heap[b]? = some (.cells cur t (0,0))) ∧ (∀ i,w.frozen? ⟨b,i,none⟩ = false) ∧ ∀ i u,xs[i]? = some u → w.cell? ⟨b,i,none⟩ = some u:=by
 rcases h.2 with ⟨_,h0⟩ | ⟨g,cap,cur,rfl,hg,hh,hn',hm,hc,ht⟩
 ·omega
 ·refine ⟨g,cap,rfl,hg,⟨cur,hh⟩,fun i => by simp [World.frozen?,hh],fun i u hu => ?_⟩
  rw [← ht,List.getElem?_take] at hu;split at hu
  ·exact blk_cell hh (by simpa using hu)
  ·cases hu
theorem cell_of {w w' : World} {b i : Nat} (h : w'.heap[b]? = w.heap[b]?) : w'.cell? ⟨b,i,none⟩ = w.cell? ⟨b,i,none⟩:=by
 simp only [World.cell?,h]
theorem exec_load_mid {P : Program} {o : Oper} {a : Act} {w : World} (ty : TypeId) (x : Operand) (ho : o.op = .load ty x) (b off : Nat) (hx : a.eval x = .pointer (some ⟨b,off,none⟩)) (cs : List Value) (d : TypeDesc)
  (hc : w.rangeAt b off cs) (hu : P.underlying ty = some d) (hd : d.isRow = true) (hi : (P.info? ty).map (·.size) = some cs.length) :
  (execOp a.eval o).run P w = .ok (.value (.agg cs.toArray)) w:=by
 unfold execOp
 simp only [ho,hx,Instr.loadAt,Instr.sureAddr,Sem.run_bind,Sem.run_pure,Result.andThen_ok,run_loadVar_mid w b off ty cs d hc hu hd hi]
theorem wp_append_r {P : Program} {o : Oper} {a : Act} {K : Act → World → Prop} {Q : Exit → Act → World → Prop} (w : World) (s x : Operand) (t : TypeId)
  (ho : o.op = .call { callee:=.builtin .append,args:=#[s,x],argTypes:=#[t,t] })
  (base : Nat) (e : TypeId) (i : TypeInfo) (z : Value) (size bytes : Nat) (ht : P.underlying t = some (.slice e)) (hi : P.info? e = some i) (hz : i.zero = some z)
  (hsize : i.size = size) (hby : i.bytes = bytes) (hzs : z.cells.size = size) (hsz : 0 < size)
  (b n cap : Nat) (xs : List Value) (hs : a.eval s = .slice (some ⟨b,0,none⟩) n cap) (hown : w.ownsRow base e size (.slice (some ⟨b,0,none⟩) n cap) n xs)
  (ad : Addr) (m c : Nat) (news : List Value) (hx : a.eval x = .slice (some ad) m c) (hl : news.length = m * size) (hnews : ∀ j u,news[j]? = some u → w.cell? (ad.add j) = some u) (h1 : ∀ u ∈ news,u.oneCell' = true)
  (h63 : n + m ≤ maxLen) (hbytes : (n + m) * bytes ≤ 140737488355328) (hbase : base ≤ w.heap.size)
  (h : ∀ v' w',w'.ownsRow base e size v' (n + m) (xs ++ news) → w.grownBy w' (some b) → (∀ i u,xs[i]? = some u → w'.cell? ⟨b,i,none⟩ = some u) → K (a.put o.dst v') w') : o.wp P a w K Q:=by
 obtain ⟨cur,hgB,hh,hn,hm,hsz',htk⟩ : ∃ cur,base ≤ b ∧ w.heap[b]? = some (.cells cur e (0,0)) ∧ n ≤ cap ∧ cap ≤ maxLen ∧ cur.size = cap * size ∧ cur.toList.take (n * size) = xs:=by
  rcases hown.2 with ⟨e1,_⟩ | ⟨g,cap',cur,e1,h2,h3,h4,h5,h6,h7⟩
  ·cases e1
  ·injection e1 with e1 e2 e3
   injection e1 with e1
   injection e1 with e1
   subst e1 e3;exact ⟨cur,h2,h3,h4,h5,h6,h7⟩
 have hold : ∀ i u,xs[i]? = some u → w.cell? ⟨b,i,none⟩ = some u:=fun i u hu => by
  rw [← htk,List.getElem?_take] at hu;split at hu
  ·exact blk_cell hh (by simpa using hu)
  ·cases hu
 unfold Oper.wp execOp
 by_cases hroom : n + m ≤ cap
 ·obtain ⟨v',w',hr,h2,h3,h4,h5⟩:=run_append_own_at (P:=P) w base t o.type e i z size bytes ht hi hz hsize hby hzs hsz _ n xs hown ad m c news hl hnews h1 h63 hbytes hbase
  have hms : (n + m) * size ≤ cap * size:=Nat.mul_le_mul_right _ hroom
  rw [Nat.add_mul] at hms;have hr2:=run_append_room_cells (P:=P) w t o.type e i ht hi b 0 n cap ad m c news (by rw [hsize];exact hl) hnews h1 hroom
   (fun j hj => by
    rw [hsize,blk_cell hh (show cur[0 + n * size + j]? = some cur[0 + n * size + j] from Array.getElem?_eq_getElem (by omega))]
    rfl)
   (fun j hj => by simp [World.frozen?,hh])
  have hv : v' = .slice (some ⟨b,0,none⟩) (n + m) cap:=by
   have:=hr.symm.trans hr2
   injection this
  simp only [ho,resolve,invoke,builtin,Sem.run_bind,Sem.run_pure,Result.andThen_ok,List.map_toArray,List.map_cons,List.map_nil,hs,hx,hr]
  refine h v' w' h2 h3 (fun i u hu => ?_)
  rw [hv] at h2;rcases h2.2 with ⟨e1,_⟩ | ⟨g,cap',cur',e1,_,g3,_,_,_,g7⟩
  ·cases e1
  ·injection e1 with e1 e2 e3
   injection e1 with e1
   injection e1 with e1
   subst e1;have hlt : i < xs.length:=(List.getElem?_eq_some_iff.1 hu).1
   have h8 : (xs ++ news)[i]? = some u:=by rw [List.getElem?_append_left hlt];exact hu
   rw [← g7,List.getElem?_take] at h8;split at h8
   ·exact blk_cell g3 (by simpa using h8)
   ·cases h8
 ·obtain ⟨v',w',hr,h2,h3⟩:=run_append_arg_grows (P:=P) w t o.type e i z size bytes ht hi hz hsize hby hzs hsz ⟨b,0,none⟩ n cap xs hown.1 (fun j u hj => by rw [Addr.add_mid,Nat.zero_add];exact hold j u hj) ad m c news hl hnews (by omega) h63 hbytes
  simp only [ho,resolve,invoke,builtin,Sem.run_bind,Sem.run_pure,Result.andThen_ok,List.map_toArray,List.map_cons,List.map_nil,hs,hx,hr]
  refine h v' w' ⟨h2.1,?_⟩ ⟨h3.os,h3.tape,h3.output,h3.size,fun j hj _ => h3.block j hj (by simp)⟩ (fun i u hu => ?_)
  ·rcases h2.2 with h4 | ⟨g,cap',cur',e1,g2,g3⟩
   ·exact .inl h4
   ·exact .inr ⟨g,cap',cur',e1,Nat.le_trans hbase g2,g3⟩
  ·rw [cell_of (h3.block b (blk_lt hh) (by simp))]
   exact hold i u hu
theorem own_rdA {w : World} {B n n' s b cap : Nat} {t : TypeId} {v : Value} {xs : List Value} (h : w.ownsRow B t s v n xs) (e : v = .slice (some ⟨b,0,none⟩) n' cap) (hn : 0 < n) : ∀ i u,xs[i]? = some u → w.cell? ⟨b,i,none⟩ = some u:=by
 obtain ⟨b',cap',e',_,_,_,hr⟩:=own_rd h hn
 rw [e] at e'
 injection e' with e1
 injection e1 with e1
 injection e1 with e1
 subst e1
 exact hr
theorem own_base {w : World} {B B' n s : Nat} {t : TypeId} {v : Value} {xs : List Value} (h : w.ownsRow B t s v n xs) (hB : B' ≤ B) : w.ownsRow B' t s v n xs:=by
 refine ⟨h.1,?_⟩
 rcases h.2 with h1 | ⟨g,cap,cur,e,hg,h2⟩
 ·exact .inl h1
 ·exact .inr ⟨g,cap,cur,e,Nat.le_trans hB hg,h2⟩
theorem own_open13 {w : World} {B n s : Nat} {t : TypeId} {v : Value} {xs : List Value} (h : w.ownsRow B t s v n xs) : ∃ a c,v = .slice a n c:=by
 rcases h.2 with ⟨e,h0⟩ | ⟨_,_,_,e,_⟩
 ·exact ⟨_,_,by rw [e,h0]⟩
 ·exact ⟨_,_,e⟩
def flC {α : Type} (n : Nat) (f : α → Nat → Value) : List α → List Value
 | [] => []
 | x :: l => (List.range n).map (f x) ++ flC n f l
theorem flC_len {α : Type} (n : Nat) (f : α → Nat → Value) : ∀ l : List α,(flC n f l).length = l.length * n
 | [] => by simp [flC]
 | x :: l => by rw [flC,List.length_append,flC_len n f l,List.length_map,List.length_range,List.length_cons,Nat.succ_mul];omega
theorem flC_get {α : Type} (n : Nat) (f : α → Nat → Value) (d : α) : ∀ (l : List α) k j,k < l.length → j < n → (flC n f l)[k * n + j]? = some (f (l.getD k d) j)
 | [],k,j,h,_ => by simp at h
 | x :: l,0,j,h,hj => by
  rw [flC,Nat.zero_mul,Nat.zero_add,List.getElem?_append_left (by simpa using hj),List.getElem?_map,List.getElem?_range hj]
  rfl
 | x :: l,k + 1,j,h,hj => by
  have hl : ((List.range n).map (f x)).length = n:=by simp
  rw [flC,List.getElem?_append_right (by rw [hl,Nat.succ_mul];omega),hl,show (k + 1) * n + j - n = k * n + j by rw [Nat.succ_mul];omega]
  rw [flC_get n f d l k j (by simpa using h) hj]
  rfl
theorem flC_append {α : Type} (n : Nat) (f : α → Nat → Value) : ∀ l m : List α,flC n f (l ++ m) = flC n f l ++ flC n f m
 | [],m => rfl
 | x :: l,m => by rw [List.cons_append,flC,flC,flC_append n f l m,List.append_assoc]
theorem flC_set {α : Type} (n : Nat) (f : α → Nat → Value) (d : α) (l : List α) (k j0 : Nat) (y : α) (v : Value) (hk : k < l.length) (hj0 : j0 < n) (h : ∀ j,j < n → f y j = if j = j0 then v else f (l.getD k d) j) : flC n f (l.set k y) = (flC n f l).set (k * n + j0) v:=by
 apply List.ext_getElem?
 intro i
 rcases Nat.lt_or_ge i (l.length * n) with hi | hi
 ·have hn : 0 < n:=by omega
  obtain ⟨q,j,hq,hj,rfl⟩ : ∃ q j,q < l.length ∧ j < n ∧ i = q * n + j:=⟨i / n,i % n,(Nat.div_lt_iff_lt_mul hn).2 hi,Nat.mod_lt _ hn,by rw [Nat.mul_comm];exact (Nat.div_add_mod i n).symm⟩
  rw [flC_get n f d _ q j (by simpa using hq) hj,List.getElem?_set]
  by_cases hqk : q = k
  ·subst hqk
   have hg : (l.set q y).getD q d = y:=by simp [gDQ,hk]
   rw [hg,h j hj];by_cases hjj : j = j0
   ·subst hjj
    rw [if_pos rfl,if_pos rfl,if_pos (by rw [flC_len];exact hi)]
   ·rw [if_neg hjj,if_neg (by omega),flC_get n f d l q j hk hj]
  ·have hg : (l.set k y).getD q d = l.getD q d:=by simp [gDQ,List.getElem?_set_ne (Ne.symm hqk)]
   have hne : ¬ k * n + j0 = q * n + j:=by
    intro he
    apply hqk
    have h1 : (k * n + j0) / n = k:=by rw [Nat.mul_comm,Nat.mul_add_div hn,Nat.div_eq_of_lt hj0,Nat.add_zero]
    have h2 : (q * n + j) / n = q:=by rw [Nat.mul_comm,Nat.mul_add_div hn,Nat.div_eq_of_lt hj,Nat.add_zero]
    rw [he,h2] at h1;exact h1
   rw [hg,if_neg hne,flC_get n f d l q j hq hj]
 ·rw [List.getElem?_eq_none (by rw [flC_len,List.length_set];exact hi),List.getElem?_eq_none (by rw [List.length_set,flC_len];exact hi)]
def evV (e : Ev) (j : Nat) : Value:=if j = 0 then .int .i64 e.who else if j = 1 then .int .i64 e.op else if j = 2 then .int .i64 e.a else if j = 3 then .int .i64 e.value else .bool e.shut
def evC (l : List Ev) : List Value:=flC 5 evV l
def Qu (W : World) (v : Value) (xs : List Int) : Prop:=(v = .slice none 0 0 ∧ xs = []) ∨ ∃ b off cap cur,v = .slice (some ⟨b,off,none⟩) xs.length cap ∧ W.heap[b]? = some (.cells cur 3 (0,0)) ∧ off + cap ≤ cur.size ∧ xs.length ≤ cap ∧ ∀ j,j < xs.length → cur[off + j]? = some (.int .i64 (xs.getD j 0))
theorem Qu.keep {w w' : World} {v : Value} {xs : List Int} (h : Qu w v xs) (hk : ∀ b,v.ownBlock = some b → w'.heap[b]? = w.heap[b]?) : Qu w' v xs:=by
 rcases h with h | ⟨b,off,cap,cur,rfl,hh,hs,hl,hc⟩
 ·exact .inl h
 ·exact .inr ⟨b,off,cap,cur,rfl,by rw [hk b (by simp [Value.ownBlock])];exact hh,hs,hl,hc⟩
theorem Qu.below {w w' : World} {v : Value} {xs : List Int} (h : Qu w v xs) (hb : Below w.heap.size w w') : Qu w' v xs:=by
 rcases h with h | ⟨b,off,cap,cur,rfl,hh,hs,hl,hc⟩
 ·exact .inl h
 ·exact .inr ⟨b,off,cap,cur,rfl,blk_keep hh hb,hs,hl,hc⟩
theorem Qu.cell {w : World} {v : Value} {xs : List Int} (h : Qu w v xs) (hp : 0 < xs.length) : ∃ b off cap,v = .slice (some ⟨b,off,none⟩) xs.length cap ∧ xs.length ≤ cap ∧ w.cell? ⟨b,off,none⟩ = some (.int .i64 (xs.getD 0 0)):=by
 rcases h with ⟨_,rfl⟩ | ⟨b,off,cap,cur,rfl,hh,hs,hl,hc⟩
 ·simp at hp
 ·refine ⟨b,off,cap,rfl,hl,blk_cell hh ?_⟩
  have:=hc 0 hp
  rwa [Nat.add_zero] at this
theorem Qu.tail {w : World} {b off n cap : Nat} {xs : List Int} (h : Qu w (.slice (some ⟨b,off,none⟩) n cap) xs) (hp : 0 < xs.length) : Qu w (.slice (if cap = 1 then some ⟨b,off,none⟩ else some ⟨b,off + 1,none⟩) (n - 1) (cap - 1)) xs.tail:=by
 rcases h with ⟨h,_⟩ | ⟨b',off',cap',cur,e,hh,hs,hl,hc⟩
 ·cases h
 ·injection e with e1 e2 e3
  injection e1 with e1
  injection e1 with e1 e4
  subst e1 e2 e3 e4;have hlt : xs.tail.length = xs.length - 1:=List.length_tail
  by_cases hc1 : cap = 1
  ·rw [if_pos hc1]
   refine .inr ⟨b,off,cap - 1,cur,by rw [hlt],hh,by omega,by omega,fun j hj => by omega⟩
  ·rw [if_neg hc1]
   refine .inr ⟨b,off + 1,cap - 1,cur,by rw [hlt],hh,by omega,by omega,fun j hj => ?_⟩
   have:=hc (j + 1) (by omega)
   rw [tail_getD,Nat.add_assoc,Nat.add_comm 1 j];exact this
theorem setCells_one (w : World) (b o : Nat) (v : Value) : w.setCells b o [v] = w.setCell ⟨b,o,none⟩ v:=rfl
theorem wp_append_q {o : Oper} {a : Act} {K : Act → World → Prop} {Q : Exit → Act → World → Prop} (w : World) (s x : Operand)
  (ho : o.op = .call { callee:=.builtin .append,args:=#[s,x],argTypes:=#[24,24] })
  (v : Value) (xs : List Int) (hs : a.eval s = v) (hq : Qu w v xs) (g : Nat) (y : Int) (hx : a.eval x = .slice (some ⟨g,0,none⟩) 1 1) (hc : w.cell? ⟨g,0,none⟩ = some (.int .i64 y)) (hl : xs.length + 1 ≤ 1048576)
  (h : ∀ v' w',Qu w' v' (xs ++ [y]) → (∀ b,b < w.heap.size → v.ownBlock ≠ some b → w'.heap[b]? = w.heap[b]?) → w.heap.size ≤ w'.heap.size → (v'.ownBlock = v.ownBlock ∨ ∃ b,v'.ownBlock = some b ∧ w.heap.size ≤ b) → (∀ B o,Below B o w → B ≤ w.heap.size → (∀ b,v.ownBlock = some b → B ≤ b) → Below B o w') → K (a.put o.dst v') w') : o.wp Try.prog a w K Q:=by
 obtain ⟨i3,hi3,hz30,hz31,hz32⟩:=info_parts' intinfo
 have hnews : ∀ j u,[Value.int .i64 y][j]? = some u → w.cell? ((⟨g,0,none⟩ : Addr).add j) = some u:=by
  intro j u hj
  match j,hj with
  | 0,hj =>
   simp at hj
   subst hj;rw [Addr.add_mid];exact hc
 have hgrown : ∀ v' w',w'.ownsRow w.heap.size 3 1 v' (xs.length + 1) (xs.map (Value.int .i64) ++ [.int .i64 y]) → Qu w' v' (xs ++ [y]) ∧ ∃ b,v'.ownBlock = some b ∧ w.heap.size ≤ b:=by
  intro v' w' hown
  rcases hown.2 with ⟨_,h0⟩ | ⟨b,cap,cur,rfl,hg,hh,hn,hm,hcs,ht⟩
  ·omega
  ·refine ⟨.inr ⟨b,0,cap,cur,by simp,hh,by omega,by simp;omega,fun j hj => ?_⟩,b,by simp [Value.ownBlock],hg⟩
   have hj2 : j < xs.length + 1:=by simpa using hj
   have h1 : (cur.toList.take ((xs.length + 1) * 1))[j]? = ((xs ++ [y]).map (Value.int .i64))[j]?:=by rw [ht];simp
   rw [List.getElem?_take,if_pos (by omega),List.getElem?_map,List.getElem?_eq_getElem hj] at h1
   rw [Nat.zero_add,gDQ,List.getElem?_eq_getElem hj];simpa using h1
 rcases hq with ⟨rfl,rfl⟩ | ⟨b,off,cap,cur,rfl,hh,hsz,hcap,hcell⟩
 ·refine wp_append_own w s x 24 ho w.heap.size 3 i3 (.int .i64 0) 1 8 Try.underlying24 hi3 hz30 hz31 hz32 rfl (by decide) _ 0 [] hs ⟨rfl,.inl ⟨rfl,rfl⟩⟩ ⟨g,0,none⟩ 1 1 [.int .i64 y] hx rfl hnews (by simp [Value.oneCell']) (by unfold maxLen;omega) (by omega) (Nat.le_refl _) ?_
  intro v' w' hown hgr _
  obtain ⟨h1,b,h2,h3⟩:=hgrown v' w' hown
  exact h v' w' h1 (fun b hb _ => hgr.block b hb (by simp [Value.ownBlock])) hgr.size (.inr ⟨b,h2,h3⟩) (fun B o hB hl _ => hB.grown hgr hl (fun k hk => by simp [Value.ownBlock] at hk))
 ·have hcl : ∀ j u,(xs.map (Value.int .i64))[j]? = some u → w.cell? ⟨b,off + j,none⟩ = some u:=by
   intro j u hj
   rw [List.getElem?_map] at hj;have hjl : j < xs.length:=by
    rcases Nat.lt_or_ge j xs.length with h | h
    ·exact h
    ·rw [List.getElem?_eq_none h] at hj;cases hj
   refine blk_cell hh ?_
   rw [hcell j hjl,← hj,gDQ,List.getElem?_eq_getElem hjl];rfl
  unfold Oper.wp execOp
  by_cases hroom : xs.length + 1 ≤ cap
  ·have hrun:=run_append_room_cells (P:=Try.prog) w 24 o.type 3 i3 Try.underlying24 hi3 b off xs.length cap ⟨g,0,none⟩ 1 1 [.int .i64 y] (by rw [hz31];rfl) hnews (by simp [Value.oneCell']) hroom
    (fun j hj => by
     have : j = 0:=by simpa using hj
     subst this;rw [hz31,blk_cell hh (show cur[off + xs.length * 1 + 0]? = some cur[off + xs.length * 1 + 0] from Array.getElem?_eq_getElem (by omega))]
     rfl)
    (fun j hj => by simp [World.frozen?,hh])
   simp only [ho,resolve,invoke,builtin,Sem.run_bind,Sem.run_pure,Result.andThen_ok,List.map_toArray,List.map_cons,List.map_nil,hs,hx,hrun]
   refine h _ _ ?_ (fun b' hb' hne => ?_) ?_ (.inl rfl) (fun B o hB hl hk => by rw [hz31,setCells_one];exact hB.setCell (p:=⟨b,off + xs.length * 1,none⟩) (hk b (by simp [Value.ownBlock])) _)
   ·rw [hz31,Nat.mul_one,setCells_one]
    refine .inr ⟨b,off,cap,cur.setIfInBounds (off + xs.length) (.int .i64 y),by simp,blk_set hh,by simpa using hsz,by simp;omega,fun j hj => ?_⟩
    have hj2 : j < xs.length + 1:=by simpa using hj
    rcases Nat.lt_or_ge j xs.length with hlt | hge
    ·rw [Array.getElem?_setIfInBounds_ne (by omega),hcell j hlt,gDQ,gDQ,List.getElem?_append_left hlt]
    ·obtain rfl : j = xs.length:=by omega
     rw [Array.getElem?_setIfInBounds_self_of_lt (by omega)]
     simp [gDQ]
   ·rw [hz31,setCells_one]
    exact Below.heap_setCell _ _ _ b' (by rintro rfl;exact hne (by simp [Value.ownBlock]))
   ·rw [setCells_one];simp
  ·obtain ⟨v',w',hrun,r1,r2⟩:=run_append_arg_grows (P:=Try.prog) w 24 o.type 3 i3 (.int .i64 0) 1 8 Try.underlying24 hi3 hz30 hz31 hz32 rfl (by decide) ⟨b,off,none⟩ xs.length cap (xs.map (Value.int .i64)) (by simp) (fun j u hj => by rw [Addr.add_mid];exact hcl j u hj) ⟨g,0,none⟩ 1 1 [.int .i64 y] rfl hnews (by omega) (by unfold maxLen;omega) (by omega)
   simp only [ho,resolve,invoke,builtin,Sem.run_bind,Sem.run_pure,Result.andThen_ok,List.map_toArray,List.map_cons,List.map_nil,hs,hx,hrun]
   obtain ⟨h1,b2,h2,h3⟩:=hgrown v' w' r1
   exact h v' w' h1 (fun b' hb' _ => r2.block b' hb' (by simp)) r2.size (.inr ⟨b2,h2,h3⟩) (fun B o hB hl _ => hB.grown r2 hl (fun k hk => by simp at hk))
theorem Qu.setN {w : World} {p o : Nat} {t' : TypeId} {fr : Nat × Nat} {v u : Value} {xs : List Int} {cs : Array Value} (h : Qu w v xs) (hp : w.heap[p]? = some (.cells cs t' fr)) (ht : 3 ≠ t') : Qu (w.setCell ⟨p,o,none⟩ u) v xs:=by
 rcases h with h | ⟨b,off,cap,cur,rfl,hh,hs,hl,hc⟩
 ·exact .inl h
 ·refine .inr ⟨b,off,cap,cur,rfl,?_,hs,hl,hc⟩
  rw [Below.heap_setCell _ _ _ b ?_]
  ·exact hh
  ·rintro rfl
   have:=hh.symm.trans hp
   simp at this
   exact ht this.2.1
theorem Qu.setB {w : World} {p o : Nat} {v u : Value} {xs : List Int} (h : Qu w v xs) (hp : v.ownBlock ≠ some p) : Qu (w.setCell ⟨p,o,none⟩ u) v xs :=
 h.keep (fun b hb => Below.heap_setCell _ _ _ b (by rintro rfl;exact hp hb))
theorem Qu.neT {w : World} {B n s : Nat} {t' : TypeId} {v v' : Value} {xs : List Int} {xs' : List Value} (h : Qu w v xs) (h' : w.ownsRow B t' s v' n xs') (ht : 3 ≠ t') : ∀ k,v.ownBlock = some k → v'.ownBlock ≠ some k:=by
 intro k hk
 rcases h with ⟨rfl,_⟩ | ⟨b,off,cap,cur,rfl,hh,_⟩
 ·simp [Value.ownBlock] at hk
 ·simp [Value.ownBlock] at hk
  subst hk;exact own_neB h' hh (Ne.symm ht)
theorem Qu.lt {w : World} {v : Value} {xs : List Int} (h : Qu w v xs) : ∀ b,v.ownBlock = some b → b < w.heap.size:=by
 intro b hb
 rcases h with ⟨rfl,_⟩ | ⟨b',off,cap,cur,rfl,hh,_⟩
 ·simp [Value.ownBlock] at hb
 ·simp [Value.ownBlock] at hb
  subst hb;exact blk_lt hh
theorem Qu.nB {w : World} {v : Value} {xs : List Int} {g : Nat} {cs : Array Value} {t' : TypeId} {fr : Nat × Nat} (h : Qu w v xs) (hg : w.heap[g]? = some (.cells cs t' fr)) (ht : 3 ≠ t') : v.ownBlock ≠ some g:=by
 intro hk
 rcases h with ⟨rfl,_⟩ | ⟨b,off,cap,cur,rfl,hh,_⟩
 ·simp [Value.ownBlock] at hk
 ·simp [Value.ownBlock] at hk
  subst hk;have:=hh.symm.trans hg
  simp at this
  exact ht this.2.1
end LW
end Go.Proofs.Ytfbnakmmmphedaa
