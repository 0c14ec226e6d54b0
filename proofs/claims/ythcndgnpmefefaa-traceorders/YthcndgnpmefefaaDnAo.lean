/-
  Dn, InM, InN in one.
-/
import Derived.Test.YthcndgnpmefefaaTvBo
import Derived.Test.YthcndgnpmefefaaOrd3o
import Derived.Test.YthcndgnpmefefaaPairo
import Derived.Test.YthcndgnpmefefaaTr2o
set_option linter.unusedVariables false
set_option linter.unusedSimpArgs false
namespace Go.Proofs.Ythcndgnpmefefaa
open List renaming setIfInBounds_toArray → lpA,set_cons_zero → lpZ,set_cons_succ → lpS,getElem_toArray → lgT,getElem_cons_zero → lgZ,getElem_cons_succ → lgS
open Go.RowKit
namespace LW
open Mc
set_option maxRecDepth 100000 in
set_option maxHeartbeats 4000000 in
theorem rwithin (a : Option Addr) (c : Nat) (xs : List Int) (j : Int) (w : World) (h : NR w a xs) (hn : xs.length ≤ 1000000) :
  Calls Try.prog 30 #[.slice a xs.length c,.int .i64 j] w fun e w' => e = .returned (.bool (decide (j ∈ xs))) ∧ Below w.heap.size w w':=by
 obtain ⟨POST,hP⟩ : ∃ Q : Ending → World → Prop,Q = fun e w' => e = .returned (.bool (decide (j ∈ xs))) ∧ Below w.heap.size w w':=⟨_,rfl⟩
 have HPt : Hid (∀ W,j ∈ xs → Below w.heap.size w W → POST (.returned (.bool true)) W):=fun W hm hW => by rw [hP,decide_eq_true hm];exact ⟨rfl,hW⟩
 have HPf : Hid (∀ W,¬ j ∈ xs → Below w.heap.size w W → POST (.returned (.bool false)) W):=fun W hm hW => by rw [hP,decide_eq_false hm];exact ⟨rfl,hW⟩
 rw [← hP]
 clear hP
 have HN:=TW.hide h
 obtain ⟨N,hN⟩ : ∃ N,xs.length = N:=⟨_,rfl⟩
 have HL:=TW.hide hN
 rw [hN] at hn ⊢
 clear h hN
 go_enter Try.func30,Try.ntmps30
 go_wp2
 go_loopw [5] (fun iv wr => ∃ i : Nat,i ≤ N ∧ iv = .int .i64 (i : Int) ∧ Hid (∀ p,p < i → xs.getD p 0 ≠ j) ∧ Hid (Below w.heap.size w wr)) (fun iv wr => N - (intOf iv).toNat)
 case atStart => exact ⟨0,Nat.zero_le _,rfl,TW.hide (fun p hp => by omega),TW.hide (Below.refl _ _)⟩
 case round =>
  obtain ⟨i,hi,rfl,HA,HB⟩:=hrel
  by_cases hlt : i < N
  ·have hk1 : (i : Int) < (N : Int):=by omega
   have hk0 : (0 : Int) ≤ (i : Int):=by omega
   rcases HN.out.below HB.out with h | ⟨b,off,rfl,hc⟩
   ·have:=HL.out;rw [h] at this;simp at this;omega
   have y:=hc i (by rw [HL.out];exact hlt)
   clear hc
   obtain ⟨x,hx⟩ : ∃ x,xs.getD i 0 = x:=⟨_,rfl⟩
   rw [hx] at y
   by_cases hxj : x = j
   ·have kx : (x == j) = true:=by simp [hxj]
    have hm : j ∈ xs:=by
     rw [← hxj,← hx,List.getD_eq_getElem?_getD,List.getElem?_eq_getElem (by rw [HL.out];exact hlt)]
     exact List.getElem_mem _
    have HR:=TW.hide (HPt.out wr hm HB.out)
    clear hxj hx hm HPt HPf
    go_wp2
    first | exact HR.out | exact ⟨rfl,HR.out⟩
   ·have kx : (x == j) = false:=by simp [hxj]
    have HA1 : Hid (∀ p,p < i + 1 → xs.getD p 0 ≠ j):=fun p hp => by
     by_cases e : p = i
     ·rw [e,hx];exact hxj
     ·exact HA.out p (by omega)
    have HLT:=TW.hide hlt
    clear hxj hx HA
    go_wp2
    go_roundw
    case rel => exact ⟨i + 1,HLT.out,by go_num,HA1,HB⟩
    case measure => simp [intOf];have:=HLT.out;omega
  ·obtain rfl : i = N:=by omega
   have kk : ¬ (i : Int) < (i : Int):=by omega
   have hm : ¬ j ∈ xs:=fun hx => by
    obtain ⟨p,hp,e⟩:=List.getElem_of_mem hx
    refine HA.out p (by rw [← HL.out];exact hp) ?_
    rw [List.getD_eq_getElem?_getD,List.getElem?_eq_getElem hp]
    exact e
   have HR:=TW.hide (HPf.out wr hm HB.out)
   clear hm HPt HPf HA
   go_wp2
   first | exact HR.out | exact ⟨rfl,HR.out⟩
set_option maxRecDepth 100000 in
set_option maxHeartbeats 4000000 in
theorem rnthS (la : Option Addr) (lc : Nat) (l : List Ev) (j n : Nat) (a : Int) (w : World) (hl : EvI w la lc l) (hj : j ≤ l.length) (hn : l.length ≤ 40000) (hn2 : n ≤ 40000) :
  Calls Try.prog 40 #[.slice la l.length lc,.int .i64 (j : Int),.int .i64 5,.int .i64 a,.int .i64 (n : Int)] w (fun e w' => (∃ r : Int,e = .returned (.int .i64 r) ∧ ((∃ i,i < j ∧ ((Tr.ev l i).op = 5 ∧ (Tr.ev l i).a = a) ∧ Tr.snC (l.take i) a = n ∧ r = (i : Int)) ∨ (r = -1 ∧ ∀ i,i < j → ((Tr.ev l i).op = 5 ∧ (Tr.ev l i).a = a) → Tr.snC (l.take i) a ≠ n))) ∧ Below w.heap.size w w'):=by
 obtain ⟨POST,hP⟩ : ∃ Q : Ending → World → Prop,Q = fun e w' => (∃ r : Int,e = .returned (.int .i64 r) ∧ ((∃ i,i < j ∧ ((Tr.ev l i).op = 5 ∧ (Tr.ev l i).a = a) ∧ Tr.snC (l.take i) a = n ∧ r = (i : Int)) ∨ (r = -1 ∧ ∀ i,i < j → ((Tr.ev l i).op = 5 ∧ (Tr.ev l i).a = a) → Tr.snC (l.take i) a ≠ n))) ∧ Below w.heap.size w w':=⟨_,rfl⟩
 have HPt : Hid (∀ W i,i < j → ((Tr.ev l i).op = 5 ∧ (Tr.ev l i).a = a) → Tr.snC (l.take i) a = n → Below w.heap.size w W → POST (.returned (.int .i64 (i : Int))) W):=fun W i h1 h2 h3 hW => by rw [hP];exact ⟨⟨_,rfl,.inl ⟨i,h1,h2,h3,rfl⟩⟩,hW⟩
 have HPf : Hid (∀ W,(∀ i,i < j → ((Tr.ev l i).op = 5 ∧ (Tr.ev l i).a = a) → Tr.snC (l.take i) a ≠ n) → Below w.heap.size w W → POST (.returned (.int .i64 (-1))) W):=fun W h hW => by rw [hP];exact ⟨⟨_,rfl,.inr ⟨rfl,h⟩⟩,hW⟩
 rw [← hP]
 clear hP
 have HE:=TW.hide hl
 clear hl
 go_enter Try.func40,Try.ntmps40
 go_wp2
 go_loopw [4,11] (fun nv iv wr => ∃ i q : Nat,i ≤ j ∧ iv = .int .i64 (i : Int) ∧ nv = .int .i64 (q : Int) ∧ Hid (q + Tr.snC (l.take i) a = n) ∧ Hid (∀ p,p < i → ((Tr.ev l p).op = 5 ∧ (Tr.ev l p).a = a) → Tr.snC (l.take p) a ≠ n) ∧ Hid (Below w.heap.size w wr)) (fun nv iv wr => j - (intOf iv).toNat)
 case atStart => exact ⟨0,n,Nat.zero_le _,rfl,rfl,by show n + 0 = n;rfl,TW.hide (fun p hp => by omega),TW.hide (Below.refl _ _)⟩
 case round =>
  obtain ⟨i,q,hi,rfl,rfl,HQ,HA,HB⟩:=hrel
  have hq4 : q ≤ 40000:=by have:=HQ.out;omega
  by_cases hlt : i < j
  ·obtain ⟨b,off,who,opx,ax,va,sh,hla,hev,_,_,_,_,x0,x1,x2,x3,x4⟩:=(HE.out.below HB.out).get i (by omega)
   subst hla
   have hk1 : (i : Int) < (j : Int):=by omega
   have hk2 : (i : Int) < (l.length : Int):=by omega
   have hk0 : (0 : Int) ≤ (i : Int):=by omega
   have hk4 : i + 1 ≤ 40000:=by omega
   have hS : Tr.snC (l.take (i + 1)) a = Tr.snC (l.take i) a + (if ((Tr.ev l i).op = 5 ∧ (Tr.ev l i).a = a) then 1 else 0):=by
    rw [take_ev l i (by omega),Tr.snC_snoc]
   have hno : ¬ ((Tr.ev l i).op = 5 ∧ (Tr.ev l i).a = a) → Hid (q + Tr.snC (l.take (i + 1)) a = n) ∧ Hid (∀ p,p < i + 1 → ((Tr.ev l p).op = 5 ∧ (Tr.ev l p).a = a) → Tr.snC (l.take p) a ≠ n):=fun h => by
    refine ⟨?_,fun p hp hm => ?_⟩
    ·show _ = _
     rw [hS,if_neg h];exact HQ.out
    ·by_cases e : p = i
     ·rw [e] at hm;exact absurd hm h
     ·exact HA.out p (by omega) hm
   have hyes : ((Tr.ev l i).op = 5 ∧ (Tr.ev l i).a = a) → ∀ q',q = q' + 1 → Hid (q' + Tr.snC (l.take (i + 1)) a = n) ∧ Hid (∀ p,p < i + 1 → ((Tr.ev l p).op = 5 ∧ (Tr.ev l p).a = a) → Tr.snC (l.take p) a ≠ n):=fun h q' hq => by
    have h9:=HQ.out
    refine ⟨?_,fun p hp hm => ?_⟩
    ·show _ = _
     rw [hS,if_pos h];omega
    ·by_cases e : p = i
     ·rw [e];omega
     ·exact HA.out p (by omega) hm
   rw [hev] at hno hyes
   dsimp only at hno hyes
   have hev2:=hev
   by_cases h5 : opx = 5
   ·have k5 : (opx == 5) = true:=by simp [h5]
    by_cases ha : ax = a
    ·have ka : (ax == a) = true:=by simp [ha]
     by_cases hq0 : q = 0
     ·subst hq0
      have HR:=TW.hide (HPt.out wr i hlt (by rw [hev2];exact ⟨h5,ha⟩) (by have:=HQ.out;omega) HB.out)
      clear hno hyes HPt HPf hS hev hev2 HQ HA
      go_wp2
      first | exact HR.out | exact ⟨rfl,HR.out⟩
     ·obtain ⟨q',rfl⟩ : ∃ q',q = q' + 1:=⟨q - 1,by omega⟩
      obtain ⟨hQ1,hA1⟩:=hyes ⟨h5,ha⟩ q' rfl
      have kq : (((q' + 1 : Nat) : Int) == 0) = false:=by simp;omega
      clear hno hyes hS hev hev2 HQ HA hq0
      have HLT:=TW.hide hlt
      go_wp2
      go_roundw
      case rel => exact ⟨i + 1,q',HLT.out,by go_num,by go_num,hQ1,hA1,HB⟩
      case measure => simp [intOf];have:=HLT.out;omega
    ·have ka : (ax == a) = false:=by simp [ha]
     obtain ⟨hQ1,hA1⟩:=hno (fun h => ha h.2)
     clear hno hyes hS hev hev2 HQ HA
     have HLT:=TW.hide hlt
     go_wp2
     go_roundw
     case rel => exact ⟨i + 1,q,HLT.out,by go_num,rfl,hQ1,hA1,HB⟩
     case measure => simp [intOf];have:=HLT.out;omega
   ·have k5 : (opx == 5) = false:=by simp [h5]
    obtain ⟨hQ1,hA1⟩:=hno (fun h => h5 h.1)
    clear hno hyes hS hev hev2 HQ HA
    have HLT:=TW.hide hlt
    go_wp2
    go_roundw
    case rel => exact ⟨i + 1,q,HLT.out,by go_num,rfl,hQ1,hA1,HB⟩
    case measure => simp [intOf];have:=HLT.out;omega
  ·obtain rfl : i = j:=by omega
   have kk : ¬ (i : Int) < (i : Int):=by omega
   have HR:=TW.hide (HPf.out wr HA.out HB.out)
   clear HPt HPf HA HQ
   go_wp2
   first | exact HR.out | exact ⟨rfl,HR.out⟩
set_option maxRecDepth 100000 in
set_option maxHeartbeats 4000000 in
theorem rnthT (la : Option Addr) (lc : Nat) (l : List Ev) (j n : Nat) (a : Int) (w : World) (hl : EvI w la lc l) (hj : j ≤ l.length) (hn : l.length ≤ 40000) (hn2 : n ≤ 40000) :
  Calls Try.prog 40 #[.slice la l.length lc,.int .i64 (j : Int),.int .i64 6,.int .i64 a,.int .i64 (n : Int)] w (fun e w' => (∃ r : Int,e = .returned (.int .i64 r) ∧ ((∃ i,i < j ∧ ((Tr.ev l i).op = 6 ∧ (Tr.ev l i).shut = false ∧ (Tr.ev l i).a = a) ∧ Tr.tkC (l.take i) a = n ∧ r = (i : Int)) ∨ (r = -1 ∧ ∀ i,i < j → ((Tr.ev l i).op = 6 ∧ (Tr.ev l i).shut = false ∧ (Tr.ev l i).a = a) → Tr.tkC (l.take i) a ≠ n))) ∧ Below w.heap.size w w'):=by
 obtain ⟨POST,hP⟩ : ∃ Q : Ending → World → Prop,Q = fun e w' => (∃ r : Int,e = .returned (.int .i64 r) ∧ ((∃ i,i < j ∧ ((Tr.ev l i).op = 6 ∧ (Tr.ev l i).shut = false ∧ (Tr.ev l i).a = a) ∧ Tr.tkC (l.take i) a = n ∧ r = (i : Int)) ∨ (r = -1 ∧ ∀ i,i < j → ((Tr.ev l i).op = 6 ∧ (Tr.ev l i).shut = false ∧ (Tr.ev l i).a = a) → Tr.tkC (l.take i) a ≠ n))) ∧ Below w.heap.size w w':=⟨_,rfl⟩
 have HPt : Hid (∀ W i,i < j → ((Tr.ev l i).op = 6 ∧ (Tr.ev l i).shut = false ∧ (Tr.ev l i).a = a) → Tr.tkC (l.take i) a = n → Below w.heap.size w W → POST (.returned (.int .i64 (i : Int))) W):=fun W i h1 h2 h3 hW => by rw [hP];exact ⟨⟨_,rfl,.inl ⟨i,h1,h2,h3,rfl⟩⟩,hW⟩
 have HPf : Hid (∀ W,(∀ i,i < j → ((Tr.ev l i).op = 6 ∧ (Tr.ev l i).shut = false ∧ (Tr.ev l i).a = a) → Tr.tkC (l.take i) a ≠ n) → Below w.heap.size w W → POST (.returned (.int .i64 (-1))) W):=fun W h hW => by rw [hP];exact ⟨⟨_,rfl,.inr ⟨rfl,h⟩⟩,hW⟩
 rw [← hP]
 clear hP
 have HE:=TW.hide hl
 clear hl
 go_enter Try.func40,Try.ntmps40
 go_wp2
 go_loopw [4,11] (fun nv iv wr => ∃ i q : Nat,i ≤ j ∧ iv = .int .i64 (i : Int) ∧ nv = .int .i64 (q : Int) ∧ Hid (q + Tr.tkC (l.take i) a = n) ∧ Hid (∀ p,p < i → ((Tr.ev l p).op = 6 ∧ (Tr.ev l p).shut = false ∧ (Tr.ev l p).a = a) → Tr.tkC (l.take p) a ≠ n) ∧ Hid (Below w.heap.size w wr)) (fun nv iv wr => j - (intOf iv).toNat)
 case atStart => exact ⟨0,n,Nat.zero_le _,rfl,rfl,by show n + 0 = n;rfl,TW.hide (fun p hp => by omega),TW.hide (Below.refl _ _)⟩
 case round =>
  obtain ⟨i,q,hi,rfl,rfl,HQ,HA,HB⟩:=hrel
  have hq4 : q ≤ 40000:=by have:=HQ.out;omega
  by_cases hlt : i < j
  ·obtain ⟨b,off,who,opx,ax,va,sh,hla,hev,_,_,_,_,x0,x1,x2,x3,x4⟩:=(HE.out.below HB.out).get i (by omega)
   subst hla
   have hk1 : (i : Int) < (j : Int):=by omega
   have hk2 : (i : Int) < (l.length : Int):=by omega
   have hk0 : (0 : Int) ≤ (i : Int):=by omega
   have hk4 : i + 1 ≤ 40000:=by omega
   have hS : Tr.tkC (l.take (i + 1)) a = Tr.tkC (l.take i) a + (if ((Tr.ev l i).op = 6 ∧ (Tr.ev l i).shut = false ∧ (Tr.ev l i).a = a) then 1 else 0):=by
    rw [take_ev l i (by omega),Tr.tkC_snoc]
   have hno : ¬ ((Tr.ev l i).op = 6 ∧ (Tr.ev l i).shut = false ∧ (Tr.ev l i).a = a) → Hid (q + Tr.tkC (l.take (i + 1)) a = n) ∧ Hid (∀ p,p < i + 1 → ((Tr.ev l p).op = 6 ∧ (Tr.ev l p).shut = false ∧ (Tr.ev l p).a = a) → Tr.tkC (l.take p) a ≠ n):=fun h => by
    refine ⟨?_,fun p hp hm => ?_⟩
    ·show _ = _
     rw [hS,if_neg h];exact HQ.out
    ·by_cases e : p = i
     ·rw [e] at hm;exact absurd hm h
     ·exact HA.out p (by omega) hm
   have hyes : ((Tr.ev l i).op = 6 ∧ (Tr.ev l i).shut = false ∧ (Tr.ev l i).a = a) → ∀ q',q = q' + 1 → Hid (q' + Tr.tkC (l.take (i + 1)) a = n) ∧ Hid (∀ p,p < i + 1 → ((Tr.ev l p).op = 6 ∧ (Tr.ev l p).shut = false ∧ (Tr.ev l p).a = a) → Tr.tkC (l.take p) a ≠ n):=fun h q' hq => by
    have h9:=HQ.out
    refine ⟨?_,fun p hp hm => ?_⟩
    ·show _ = _
     rw [hS,if_pos h];omega
    ·by_cases e : p = i
     ·rw [e];omega
     ·exact HA.out p (by omega) hm
   rw [hev] at hno hyes
   dsimp only at hno hyes
   have hev2:=hev
   by_cases h5 : opx = 6
   ·have k5 : (opx == 6) = true:=by simp [h5]
    by_cases ha : ax = a
    ·have ka : (ax == a) = true:=by simp [ha]
     cases sh with
     | false =>
      have hsh : false = false:=rfl
      by_cases hq0 : q = 0
      ·subst hq0
       have HR:=TW.hide (HPt.out wr i hlt (by rw [hev2];exact ⟨h5,hsh,ha⟩) (by have:=HQ.out;omega) HB.out)
       clear hno hyes HPt HPf hS hev hev2 HQ HA
       go_wp2
       first | exact HR.out | exact ⟨rfl,HR.out⟩
      ·obtain ⟨q',rfl⟩ : ∃ q',q = q' + 1:=⟨q - 1,by omega⟩
       obtain ⟨hQ1,hA1⟩:=hyes ⟨h5,hsh,ha⟩ q' rfl
       have kq : (((q' + 1 : Nat) : Int) == 0) = false:=by simp;omega
       clear hno hyes hS hev hev2 HQ HA hq0
       have HLT:=TW.hide hlt
       go_wp2
       go_roundw
       case rel => exact ⟨i + 1,q',HLT.out,by go_num,by go_num,hQ1,hA1,HB⟩
       case measure => simp [intOf];have:=HLT.out;omega
     | true =>
      obtain ⟨hQ1,hA1⟩:=hno (fun h => by cases h.2.1)
      clear hno hyes hS hev hev2 HQ HA
      have HLT:=TW.hide hlt
      go_wp2
      go_roundw
      case rel => exact ⟨i + 1,q,HLT.out,by go_num,rfl,hQ1,hA1,HB⟩
      case measure => simp [intOf];have:=HLT.out;omega
    ·have ka : (ax == a) = false:=by simp [ha]
     obtain ⟨hQ1,hA1⟩:=hno (fun h => ha h.2.2)
     clear hno hyes hS hev hev2 HQ HA
     have HLT:=TW.hide hlt
     go_wp2
     go_roundw
     case rel => exact ⟨i + 1,q,HLT.out,by go_num,rfl,hQ1,hA1,HB⟩
     case measure => simp [intOf];have:=HLT.out;omega
   ·have k5 : (opx == 6) = false:=by simp [h5]
    obtain ⟨hQ1,hA1⟩:=hno (fun h => h5 h.1)
    clear hno hyes hS hev hev2 HQ HA
    have HLT:=TW.hide hlt
    go_wp2
    go_roundw
    case rel => exact ⟨i + 1,q,HLT.out,by go_num,rfl,hQ1,hA1,HB⟩
    case measure => simp [intOf];have:=HLT.out;omega
  ·obtain rfl : i = j:=by omega
   have kk : ¬ (i : Int) < (i : Int):=by omega
   have HR:=TW.hide (HPf.out wr HA.out HB.out)
   clear HPt HPf HA HQ
   go_wp2
   first | exact HR.out | exact ⟨rfl,HR.out⟩
def insAt (O : List Int) (x : Int) (k : Nat) : List Int:=O.take k ++ x :: O.drop k
theorem insAt_len (O : List Int) (x : Int) (k : Nat) (h : k ≤ O.length) : (insAt O x k).length = O.length + 1:=by
 unfold insAt
 simp
 omega
theorem insAt_get (O : List Int) (x : Int) (k i : Nat) (h : k ≤ O.length) : (insAt O x k)[i]? = if i < k then O[i]? else if i = k then some x else O[i - 1]?:=by
 unfold insAt
 have hl : (O.take k).length = k:=by simp;omega
 by_cases h1 : i < k
 ·rw [if_pos h1,List.getElem?_append_left (by omega),List.getElem?_take,if_pos h1]
 ·rw [if_neg h1,List.getElem?_append_right (by omega),hl]
  by_cases h2 : i = k
  ·rw [if_pos h2,h2,Nat.sub_self];rfl
  ·rw [if_neg h2]
   obtain ⟨d,hd⟩ : ∃ d,i - k = d + 1:=⟨i - k - 1,by omega⟩
   rw [hd,List.getElem?_cons_succ,List.getElem?_drop]
   congr 1
   omega
theorem insAt_end (O : List Int) (x : Int) : insAt O x O.length = O ++ [x]:=by
 unfold insAt
 rw [List.take_length,List.drop_length]
theorem insAt_at (O : List Int) (x : Int) (k : Nat) (h : k ≤ O.length) : (insAt O x k).getD k 0 = x:=by
 rw [List.getD_eq_getElem?_getD,insAt_get O x k k h,if_neg (by omega),if_pos rfl]
 rfl
theorem insAt_below (O : List Int) (x : Int) (k i : Nat) (h : k ≤ O.length) (hi : i < k) : (insAt O x k).getD i 0 = O.getD i 0:=by
 rw [List.getD_eq_getElem?_getD,insAt_get O x k i h,if_pos hi,← List.getD_eq_getElem?_getD]
theorem insAt_swap (O : List Int) (x : Int) (k : Nat) (h : k + 1 ≤ O.length) : ((insAt O x (k + 1)).set (k + 1) (O.getD k 0)).set k x = insAt O x k:=by
 apply List.ext_getElem?
 intro i
 have hl:=insAt_len O x (k + 1) h
 rw [List.getElem?_set,List.length_set,hl,List.getElem?_set,hl,insAt_get O x k i (by omega),insAt_get O x (k + 1) i h]
 by_cases h1 : k = i
 ·subst h1
  rw [if_pos rfl,if_pos (by omega),if_neg (by omega),if_pos rfl]
 ·rw [if_neg h1]
  by_cases h2 : k + 1 = i
  ·subst h2
   rw [if_pos rfl,if_pos (by omega),if_neg (by omega),if_neg (by omega),List.getD_eq_getElem?_getD,Nat.add_sub_cancel,List.getElem?_eq_getElem (by omega)]
   rfl
  ·rw [if_neg h2]
   by_cases h3 : i < k
   ·rw [if_pos (by omega),if_pos h3]
   ·rw [if_neg (by omega),if_neg (by omega),if_neg h3,if_neg (by omega)]
theorem insAt_mem (O : List Int) (x y : Int) (k : Nat) : y ∈ insAt O x k ↔ y = x ∨ y ∈ O:=by
 unfold insAt
 rw [List.mem_append,List.mem_cons]
 constructor
 ·rintro (h | h | h)
  ·exact .inr (List.mem_of_mem_take h)
  ·exact .inl h
  ·exact .inr (List.mem_of_mem_drop h)
 ·rintro (h | h)
  ·exact .inr (.inl h)
  ·rw [← List.take_append_drop k O] at h
   rcases List.mem_append.1 h with h | h
   ·exact .inl h
   ·exact .inr (.inr h)
theorem insAt_ord (O : List Int) (x : Int) (k : Nat) (hO : O.Pairwise (· < ·)) (hk : k ≤ O.length) (h1 : ∀ p,k ≤ p → p < O.length → x < O.getD p 0) (h2 : k = 0 ∨ O.getD (k - 1) 0 < x) : (insAt O x k).Pairwise (· < ·):=by
 have hg : ∀ p,p < O.length → O[p]? = some (O.getD p 0):=fun p hp => by rw [List.getD_eq_getElem?_getD,List.getElem?_eq_getElem hp];rfl
 unfold insAt
 rw [List.pairwise_append,List.pairwise_cons]
 refine ⟨hO.sublist (List.take_sublist _ _),⟨fun y hy => ?_,hO.sublist (List.drop_sublist _ _)⟩,fun a ha b hb => ?_⟩
 ·obtain ⟨p,hp,e⟩:=List.getElem_of_mem hy
  rw [List.length_drop] at hp
  have h3:=h1 (k + p) (by omega) (by omega)
  rw [List.getElem_drop] at e
  rw [List.getD_eq_getElem?_getD,List.getElem?_eq_getElem (by omega)] at h3
  rw [← e]
  exact h3
 ·obtain ⟨p,hp,e⟩:=List.getElem_of_mem ha
  rw [List.length_take] at hp
  rw [List.getElem_take] at e
  have hax : a < x:=by
   rcases h2 with h2 | h2
   ·omega
   ·have h4 : a ≤ O.getD (k - 1) 0:=by
     rw [List.getD_eq_getElem?_getD,List.getElem?_eq_getElem (by omega)]
     rw [← e]
     by_cases e2 : p = k - 1
     ·subst e2;exact Int.le_refl _
     ·exact Int.le_of_lt (List.pairwise_iff_getElem.1 hO p (k - 1) (by omega) (by omega) (by omega))
    omega
  rcases List.mem_cons.1 hb with rfl | hb
  ·exact hax
  ·obtain ⟨q,hq,e2⟩:=List.getElem_of_mem hb
   rw [List.length_drop] at hq
   have h3:=h1 (k + q) (by omega) (by omega)
   rw [List.getElem_drop] at e2
   rw [List.getD_eq_getElem?_getD,List.getElem?_eq_getElem (by omega)] at h3
   have h3 : x < O[k + q]:=h3
   omega
theorem own_at9 {w : World} {B b n c : Nat} {l : List Int} (h : w.ownsRow B 3 1 (.slice (some ⟨b,0,none⟩) n c) n (l.map (Value.int .i64))) (i : Nat) (hi : i < l.length) : w.cell? ⟨b,i,none⟩ = some (.int .i64 (l.getD i 0)) ∧ w.frozen? ⟨b,i,none⟩ = false:=by
 refine ⟨?_,h.frozenAt i⟩
 have h1:=h.cells (g:=b) rfl i (.int .i64 (l.getD i 0)) (by rw [List.getElem?_map,List.getElem?_eq_getElem hi,List.getD_eq_getElem?_getD,List.getElem?_eq_getElem hi];rfl)
 have hadd : (⟨b,0,Option.none⟩ : Addr).add i = ⟨b,i,Option.none⟩:=by unfold Addr.add;split <;> simp_all
 rw [hadd] at h1
 exact h1
theorem own_set9 {w : World} {B b n c : Nat} {l : List Int} (h : w.ownsRow B 3 1 (.slice (some ⟨b,0,none⟩) n c) n (l.map (Value.int .i64))) (i : Nat) (x : Int) : (w.setCell ⟨b,i,none⟩ (.int .i64 x)).ownsRow B 3 1 (.slice (some ⟨b,0,none⟩) n c) n ((l.set i x).map (Value.int .i64)):=by
 rw [List.map_set]
 exact (World.ownsRow.stored h i _).1
theorem nr_own9 {w : World} {B : Nat} {v : Value} {l : List Int} (h : w.ownsRow B 3 1 v l.length (l.map (Value.int .i64))) : ∃ a c,v = .slice a l.length c ∧ NR w a l:=by
 rcases h.2 with ⟨rfl,h0⟩ | ⟨g,cap,cur,e,_⟩
 ·exact ⟨none,0,by rw [h0],.inl (List.eq_nil_of_length_eq_zero h0)⟩
 ·subst e
  exact ⟨_,cap,rfl,.inr ⟨g,0,rfl,fun j hj => by rw [Nat.zero_add];exact (own_at9 h j hj).1⟩⟩
theorem take_one9 {α : Type} (l : List α) (i : Nat) (h : i < l.length) (d : α) : l.take (i + 1) = l.take i ++ [l.getD i d]:=by
 rw [List.take_add_one,List.getD_eq_getElem?_getD,List.getElem?_eq_getElem h]
 rfl
theorem own_pos9 {w : World} {B n : Nat} {v : Value} {ys : List Value} (h : w.ownsRow B 3 1 v n ys) (hn : 0 < n) : ∃ b c,v = .slice (some ⟨b,0,none⟩) n c ∧ B ≤ b:=by
 rcases h.2 with ⟨_,h0⟩ | ⟨g,cap,cur,e,hg,_⟩
 ·omega
 ·exact ⟨g,cap,e,hg⟩
set_option maxRecDepth 100000 in
set_option maxHeartbeats 4000000 in
theorem rrising (a : Option Addr) (c : Nat) (xs : List Int) (w : World) (h : NR w a xs) (hn : xs.length ≤ 90000) :
  Calls Try.prog 41 #[.slice a xs.length c] w (fun e w' => (∃ (v : Value) (out : List Int),e = .returned v ∧ w'.ownsRow w.heap.size 3 1 v out.length (out.map (Value.int .i64)) ∧ out.Pairwise (· < ·) ∧ (∀ x,x ∈ out ↔ (x ∈ xs ∧ 0 ≤ x)) ∧ out.length ≤ xs.length) ∧ Below w.heap.size w w'):=by
 obtain ⟨POST,hP⟩ : ∃ Q : Ending → World → Prop,Q = fun e w' => (∃ (v : Value) (out : List Int),e = .returned v ∧ w'.ownsRow w.heap.size 3 1 v out.length (out.map (Value.int .i64)) ∧ out.Pairwise (· < ·) ∧ (∀ x,x ∈ out ↔ (x ∈ xs ∧ 0 ≤ x)) ∧ out.length ≤ xs.length) ∧ Below w.heap.size w w':=⟨_,rfl⟩
 have HPo : Hid (∀ (W : World) (v : Value) (out : List Int),W.ownsRow w.heap.size 3 1 v out.length (out.map (Value.int .i64)) → out.Pairwise (· < ·) → (∀ x,x ∈ out ↔ (x ∈ xs ∧ 0 ≤ x)) → out.length ≤ xs.length → Below w.heap.size w W → POST (.returned v) W):=fun W v out h1 h2 h3 h4 hW => by rw [hP];exact ⟨⟨v,out,rfl,h1,h2,h3,h4⟩,hW⟩
 rw [← hP]
 clear hP
 have HN:=TW.hide h
 obtain ⟨N,hN⟩ : ∃ N,xs.length = N:=⟨_,rfl⟩
 have HL:=TW.hide hN
 rw [hN] at hn ⊢
 clear h hN
 obtain ⟨i3,hi3,hz30,hz31,hz32⟩:=info_parts' intinfo
 go_enter Try.func41,Try.ntmps41
 refine wp_seq_k fun K hK => ?_
 have HK:=TW.hide hK
 clear hK
 go_wp2
 refine HK.out _ _ ?_
 clear HK
 refine wp_seq_k fun K hK => ?_
 have HK:=TW.hide hK
 clear hK
 go_wp2
 refine HK.out _ _ ?_
 clear HK
 refine wp_seq_k fun K hK => ?_
 have HK:=TW.hide hK
 clear hK
 go_wp2
 go_loopw [3,4] (fun ov iv wr => ∃ (i : Nat) (O : List Int) (oa : Option Addr) (oc ON : Nat),i ≤ N ∧ iv = .int .i64 (i : Int) ∧ ov = .slice oa ON oc ∧ Hid (O.length = ON) ∧ ON ≤ i ∧ Hid (wr.ownsRow w.heap.size 3 1 (.slice oa ON oc) ON (O.map (Value.int .i64))) ∧ Hid (O.Pairwise (· < ·)) ∧ Hid (∀ y,y ∈ O ↔ (y ∈ xs.take i ∧ 0 ≤ y)) ∧ Hid (Below w.heap.size w wr)) (fun ov iv wr => N - (intOf iv).toNat)
 case atStart => exact ⟨0,[],none,0,0,Nat.zero_le _,rfl,rfl,rfl,Nat.le_refl _,TW.hide (World.ownsRow_nil _ _ _ _),TW.hide List.Pairwise.nil,TW.hide (fun y => by simp),TW.hide (Below.refl _ _)⟩
 case round =>
  obtain ⟨i,O,oa,oc,ON,hi,rfl,rfl,HON,hOi,HO,HO2o,HMe,HB⟩:=hrel
  by_cases hlt : i < N
  ·have hk1 : (i : Int) < (N : Int):=by omega
   have hk0 : (0 : Int) ≤ (i : Int):=by omega
   have hk9 : i + 1 ≤ 90000:=by omega
   rcases HN.out.below HB.out with h | ⟨b,off,hab,hc⟩
   ·have:=HL.out;rw [h] at this;simp at this;omega
   subst hab
   have y:=hc i (by rw [HL.out];exact hlt)
   clear hc
   obtain ⟨x,hx⟩ : ∃ x,xs.getD i 0 = x:=⟨_,rfl⟩
   rw [hx] at y
   have HTk : Hid (xs.take (i + 1) = xs.take i ++ [x]):=by
    show _ = _
    rw [take_one9 xs i (by rw [HL.out];exact hlt) 0,hx]
   have HLT:=TW.hide hlt
   clear hx hlt
   refine wp_seq_k fun K hK => ?_
   have HK:=TW.hide hK
   clear hK
   go_wp2
   refine HK.out _ _ ?_
   clear HK
   refine wp_seq_k fun Kb hK => ?_
   have HKb:=TW.hide hK
   clear hK
   refine wp_block ?_
   by_cases hx0 : x < 0
   ·have HM1 : Hid (∀ y,y ∈ O ↔ (y ∈ xs.take (i + 1) ∧ 0 ≤ y)):=fun y => by
     rw [HMe.out,HTk.out,List.mem_append,List.mem_singleton]
     constructor
     ·rintro ⟨h1,h2⟩
      exact ⟨.inl h1,h2⟩
     ·rintro ⟨h1 | h1,h2⟩
      ·exact ⟨h1,h2⟩
      ·omega
    clear HMe HTk
    go_wp2
    refine HKb.out _ _ ?_
    go_wp2
    go_roundw
    case rel => exact ⟨i + 1,O,_,_,_,HLT.out,by go_num,rfl,HON,by omega,HO,HO2o,HM1,HB⟩
    case measure => simp [intOf];have:=HLT.out;omega
   ·have HX0 : Hid (0 ≤ x):=by show (0 : Int) ≤ x;omega
    have kx0 : (x < 0) = False:=by simp;omega
    have HW : Hid (Calls Try.prog 30 #[.slice oa ON oc,.int .i64 x] wr fun e w' => e = .returned (.bool (decide (x ∈ O))) ∧ Below wr.heap.size wr w'):=by
     have h9:=HO.out
     rw [← HON.out] at h9
     obtain ⟨a_,c_,e_,hr_⟩:=nr_own9 h9
     injection e_ with e1_ _ e3_
     subst e1_ e3_
     have:=rwithin oa oc O x wr hr_ (by rw [HON.out];omega)
     rw [HON.out] at this
     exact this
    clear hx0
    refine wp_seq_k fun K hK => ?_
    have HK:=TW.hide hK
    clear hK
    go_wp2_with fail
    refine HW.out.mono ?_
    rintro e1 W1 ⟨rfl,hb⟩
    have HB1 : Hid (Below w.heap.size w W1):=HB.out.trans (hb.mono HB.out.size)
    have HO1:=TW.hide (own_belowI HO.out hb)
    have y:=keepC hb y
    clear hb HB HO HW
    by_cases hin : x ∈ O
    ·have kd : decide (x ∈ O) = true:=decide_eq_true hin
     rw [kd]
     have HM1 : Hid (∀ y,y ∈ O ↔ (y ∈ xs.take (i + 1) ∧ 0 ≤ y)):=fun y => by
      rw [HTk.out,List.mem_append,List.mem_singleton]
      constructor
      ·intro h1
       have:=(HMe.out y).1 h1
       exact ⟨.inl this.1,this.2⟩
      ·rintro ⟨h1 | rfl,h2⟩
       ·exact (HMe.out y).2 ⟨h1,h2⟩
       ·exact hin
     clear HMe HTk kd hin
     go_wp2
     refine HKb.out _ _ ?_
     go_wp2
     go_roundw
     case rel => exact ⟨i + 1,O,_,_,_,HLT.out,by go_num,rfl,HON,by omega,HO1,HO2o,HM1,HB1⟩
     case measure => simp [intOf];have:=HLT.out;omega
    ·have kd : decide (x ∈ O) = false:=decide_eq_false hin
     rw [kd]
     have HNi:=TW.hide hin
     clear kd hin
     go_wp2
     refine HK.out _ _ ?_
     clear HK
     have HBs : Hid (w.heap.size ≤ W1.heap.size):=HB1.out.size
     refine wp_seq_k fun K hK => ?_
     have HK:=TW.hide hK
     clear hK
     go_wp2_with (at_builtin;refine wpList_append_own _ rfl _ _ 23 rfl w.heap.size 3 i3 (.int .i64 0) 1 8 Try.underlying23 hi3 hz30 hz31 hz32 rfl (by decide) _ ON (O.map (Value.int .i64)) rfl (HO1.out.alloc _) ⟨W1.heap.size,0,none⟩ 1 1 [.int .i64 x] rfl rfl (cell_one_new _ _ _) (by simp [Value.oneCell']) (by unfold maxLen;omega) (by omega) (by have:=HBs.out;simp;omega) ?_;(intro v5 w5 hown' hgrow _);have HG5:=TW.hide hgrow;obtain ⟨g,gc,rfl,hgB⟩:=own_pos9 hown' (by omega);have HO5:=TW.hide hown';have HgB:=TW.hide hgB;clear hown' hgrow hgB)
     refine HK.out _ _ ?_
     clear HK
     have HB5 : Hid (Below w.heap.size w w5):=(HB1.out.alloc HB1.out.size _).grown HG5.out (by have:=HB1.out.size;simp;omega) (fun q hq => own_blkI HO1.out q hq)
     have HO5' : Hid (w5.ownsRow w.heap.size 3 1 (.slice (some ⟨g,0,none⟩) (ON + 1) gc) (ON + 1) ((insAt O x ON).map (Value.int .i64))):=by
      show World.ownsRow _ _ _ _ _ _ _
      rw [← HON.out,insAt_end,List.map_append,HON.out]
      exact HO5.out
     have wk0 : IntKind.i64.wrap (((ON + 1 : Nat) : Int) - 1) = (ON : Int):=by rw [IntKind.wrap_i64];omega
     clear HG5 HO5 HO1 HB1 y
     refine wp_seq_k fun K hK => ?_
     have HK:=TW.hide hK
     clear hK
     go_wp2
     refine HK.out _ _ ?_
     clear HK wk0
     go_wp2
     go_loopw [5] (fun kv wr => ∃ k : Nat,k ≤ ON ∧ kv = .int .i64 (k : Int) ∧ Hid (wr.ownsRow w.heap.size 3 1 (.slice (some ⟨g,0,none⟩) (ON + 1) gc) (ON + 1) ((insAt O x k).map (Value.int .i64))) ∧ Hid (∀ p,k ≤ p → p < O.length → x < O.getD p 0) ∧ Hid (Below w.heap.size w wr)) (fun kv wr => (intOf kv).toNat)
     case atStart => exact ⟨ON,Nat.le_refl _,rfl,HO5',TW.hide (fun p h1 h2 => by rw [HON.out] at h2;omega),HB5⟩
     case round =>
      clear HO5' HB5
      obtain ⟨kk,hkk,rfl,HOr,HGt,HBr⟩:=hrel
      have HXr : Hid (Below wr.heap.size wr wr):=Below.refl _ _
      rcases kk with _ | k
      ·refine wp_seq_k fun K hK => ?_
       have HK:=TW.hide hK
       clear hK
       refine wp_seq_k fun K8 hK8 => ?_
       have HK8:=TW.hide hK8
       clear hK8
       refine wp_region_noPanic ?_
       refine RG.wp_region_L (fun Z => True) (fun Z => Below wr.heap.size wr Z) [] (by kernel_rfl) ?_
       refine RG.wpL_any fun Ye1 hY => ?_
       have HTe1 : Hid (Below wr.heap.size wr Ye1):=by rw [hY];exact below_drewN HXr.out 1
       clear hY
       refine RG.wpL_take (fuel:=0) (a':=?Ae1) [0,1,2,3,4,5,6,7,8,9,10,11,12,13] (by kernel_rfl) (by kernel_rfl) (fun _ _ _ _ _ h => h) HTe1.out (fun _ => trivial) ?re1 ?_
       case re1 =>
        refine RG.RunsIf.weak (v:=?_) (by rfl) (by rfl) (fun Z hT => ?_) ?_
        rotate_left
        ·go_simp
         rfl
        simp only [Act.put,lpA,lpZ,lpS,lgT,lgZ,lgS]
        iterate 2
         refine RG.RunsIf.weak (v:=.bool false) (by rfl) (by rfl) (fun Z hT => ?_) ?_
         ·go_simp
         simp only [Act.put,lpA,lpZ,lpS,lgT,lgZ,lgS]
        iterate 10
         refine RG.RunsIf.skip (by rfl) (by rfl) ?_
         simp only [Act.put,lpA,lpZ,lpS,lgT,lgZ,lgS]
        refine RG.RunsIf.weak (v:=.bool false) (by rfl) (by rfl) (fun Z hT => ?_) ?_
        ·(go_simp) <;> rfl
        simp only [Act.put,lpA,lpZ,lpS,lgT,lgZ,lgS]
        exact RG.RunsIf.nil
       refine RG.wpL_done (by kernel_rfl) ?_ _
       refine NoPanic.normal ?_
       refine HK8.out _ _ ?_
       clear HK8
       have HBn : Hid (Below w.heap.size w Ye1):=HBr.out.trans (HTe1.out.mono HBr.out.size)
       have HOn:=TW.hide (own_belowI HOr.out HTe1.out)
       go_wp2
       have hord:=insAt_ord O x 0 HO2o.out (by rw [HON.out];omega) HGt.out (.inl rfl)
       have hmem : ∀ y,y ∈ insAt O x 0 ↔ (y ∈ xs.take (i + 1) ∧ 0 ≤ y):=fun y => by
        rw [insAt_mem,HMe.out,HTk.out,List.mem_append,List.mem_singleton]
        constructor
        ·rintro (rfl | ⟨h1,h2⟩)
         ·exact ⟨.inr rfl,HX0.out⟩
         ·exact ⟨.inl h1,h2⟩
        ·rintro ⟨h1 | h1,h2⟩
         ·exact .inr ⟨h1,h2⟩
         ·exact .inl h1
       have hil : (insAt O x 0).length = ON + 1:=by rw [insAt_len _ _ _ (by rw [HON.out];omega),HON.out]
       have HR1:=TW.hide hord
       have HR2:=TW.hide hmem
       have HR3:=TW.hide hil
       refine HKb.out _ _ ?_
       go_wp2
       go_roundw
       case rel => exact ⟨i + 1,insAt O x 0,_,_,ON + 1,HLT.out,by go_num,rfl,HR3,by omega,HOn,HR1,HR2,HBn⟩
       case measure => simp [intOf];have:=HLT.out;omega
      ·have hk8 : k + 1 ≤ ON:=hkk
       obtain ⟨y1,_⟩:=own_at9 HOr.out (k + 1) (by rw [insAt_len _ _ _ (by rw [HON.out];exact hkk)];have:=HON.out;omega)
       obtain ⟨y2,_⟩:=own_at9 HOr.out k (by rw [insAt_len _ _ _ (by rw [HON.out];exact hkk)];have:=HON.out;omega)
       rw [insAt_at O x (k + 1) (by rw [HON.out];exact hkk)] at y1
       rw [insAt_below O x (k + 1) k (by rw [HON.out];exact hkk) (by omega)] at y2
       obtain ⟨y0,hy0⟩ : ∃ y0,O.getD k 0 = y0:=⟨_,rfl⟩
       have HY0:=TW.hide hy0
       rw [hy0] at y2
       have wk : IntKind.i64.wrap (((k + 1 : Nat) : Int) - 1) = (k : Int):=by rw [IntKind.wrap_i64];omega
       have q0 : (0 : Int) < ((k + 1 : Nat) : Int):=by omega
       have q1 : ((k + 1 : Nat) : Int) < ((ON + 1 : Nat) : Int):=by omega
       have q2 : (k : Int) < ((ON + 1 : Nat) : Int):=by omega
       have q3 : (0 : Int) ≤ (k : Int):=by omega
       have q4 : (0 : Int) ≤ ((k + 1 : Nat) : Int):=by omega
       have q5 : (0 : Int) ≤ (k : Int) + 1:=by omega
       have q6 : k < ON:=by omega
       have q7 : (k : Int) < (ON : Int) + 1:=by omega
       have q8 : (k : Int) + 1 < (ON : Int) + 1:=by omega
       have wk2 : IntKind.i64.wrap (k : Int) = (k : Int):=by rw [IntKind.wrap_i64];omega
       clear hy0
       by_cases hxy : x < y0
       ·refine wp_seq_k fun K hK => ?_
        have HK:=TW.hide hK
        clear hK
        refine wp_seq_k fun K8 hK8 => ?_
        have HK8:=TW.hide hK8
        clear hK8
        refine wp_region_noPanic ?_
        refine RG.wp_region_L (fun Z => True) (fun Z => Below wr.heap.size wr Z) [] (by kernel_rfl) ?_
        refine RG.wpL_any fun Ye2 hY => ?_
        have HTe2 : Hid (Below wr.heap.size wr Ye2):=by rw [hY];exact below_drewN HXr.out 1
        clear hY
        refine RG.wpL_take (fuel:=0) (a':=?Ae2) [0,1,2,3,4,5,6,7,8,9,10,11,12,13] (by kernel_rfl) (by kernel_rfl) (fun _ _ _ _ _ h => h) HTe2.out (fun _ => trivial) ?re2 ?_
        case re2 =>
         refine RG.RunsIf.weak (v:=?_) (by rfl) (by rfl) (fun Z hT => ?_) ?_
         rotate_left
         ·go_simp
          rfl
         simp only [Act.put,lpA,lpZ,lpS,lgT,lgZ,lgS]
         iterate 2
          refine RG.RunsIf.weak (v:=.bool true) (by rfl) (by rfl) (fun Z hT => ?_) ?_
          ·go_simp
          simp only [Act.put,lpA,lpZ,lpS,lgT,lgZ,lgS]
         iterate 3
          refine RG.RunsIf.weak (v:=?_) (by rfl) (by rfl) (fun Z hT => ?_) ?_
          rotate_left
          ·go_simp
           rfl
          simp only [Act.put,lpA,lpZ,lpS,lgT,lgZ,lgS]
         refine RG.RunsIf.weak (v:=.int .i64 x) (by rfl) (by rfl) (fun Z hT => ?_) ?_
         ·have y1:=keepC hT y1;have y2:=keepC hT y2
          go_simp
         simp only [Act.put,lpA,lpZ,lpS,lgT,lgZ,lgS]
         iterate 2
          refine RG.RunsIf.weak (v:=?_) (by rfl) (by rfl) (fun Z hT => ?_) ?_
          rotate_left
          ·go_simp
           rfl
          simp only [Act.put,lpA,lpZ,lpS,lgT,lgZ,lgS]
         refine RG.RunsIf.weak (v:=.int .i64 (k : Int)) (by rfl) (by rfl) (fun Z hT => ?_) ?_
         ·go_simp
         simp only [Act.put,lpA,lpZ,lpS,lgT,lgZ,lgS]
         refine RG.RunsIf.weak (v:=?_) (by rfl) (by rfl) (fun Z hT => ?_) ?_
         rotate_left
         ·go_simp
          rfl
         simp only [Act.put,lpA,lpZ,lpS,lgT,lgZ,lgS]
         refine RG.RunsIf.weak (v:=.int .i64 y0) (by rfl) (by rfl) (fun Z hT => ?_) ?_
         ·have y1:=keepC hT y1;have y2:=keepC hT y2
          go_simp
         simp only [Act.put,lpA,lpZ,lpS,lgT,lgZ,lgS]
         refine RG.RunsIf.weak (v:=.bool true) (by rfl) (by rfl) (fun Z hT => ?_) ?_
         ·go_simp
         simp only [Act.put,lpA,lpZ,lpS,lgT,lgZ,lgS]
         refine RG.RunsIf.weak (v:=.bool true) (by rfl) (by rfl) (fun Z hT => ?_) ?_
         ·(go_simp) <;> rfl
         simp only [Act.put,lpA,lpZ,lpS,lgT,lgZ,lgS]
         exact RG.RunsIf.nil
        refine RG.wpL_done (by kernel_rfl) ?_ _
        refine NoPanic.normal ?_
        refine HK8.out _ _ ?_
        clear HK8
        go_wp2
        refine HK.out _ _ ?_
        clear HK
        have HBn : Hid (Below w.heap.size w Ye2):=HBr.out.trans (HTe2.out.mono HBr.out.size)
        have HOn:=TW.hide (own_belowI HOr.out HTe2.out)
        have y1:=keepC HTe2.out y1
        have y2:=keepC HTe2.out y2
        clear HBr HOr HTe2 HXr
        have HOr:=HOn
        clear HOn
        have HGt1 : Hid (∀ p,k ≤ p → p < O.length → x < O.getD p 0):=fun p h1 h2 => by
         by_cases e : p = k
         ·rw [e,HY0.out];exact hxy
         ·exact HGt.out p (by omega) h2
        clear hxy HGt
        refine wp_seq_k fun K hK => ?_
        have HK:=TW.hide hK
        clear hK
        refine wp_block ?_
        refine wp_region_noPanic ?_
        refine RG.wp_region_L (fun Z => Below Ye2.heap.size Ye2 Z) (fun Z => True) [15,17] (by kernel_rfl) ?_
        refine RG.wpL_any fun Yz29 hY => ?_
        have HBz29 : Hid (Below Ye2.heap.size Ye2 Yz29):=by rw [hY];exact below_drewN (Below.refl _ _) 1
        clear hY
        refine RG.wpL_take (fuel:=3) (a':=?Az29) [0,1,2,3,4,5,6,7,8,9,10,11,12,13,14] (by kernel_rfl) (by kernel_rfl) (fun _ _ _ _ _ h => h) trivial (fun _ => HBz29.out) ?rz29 ?_
        case rz29 =>
         iterate 4
          refine RG.RunsIf.weak (v:=?_) (by rfl) (by rfl) (fun Z hT => ?_) ?_
          rotate_left
          ·go_simp
           rfl
          simp only [Act.put,lpA,lpZ,lpS,lgT,lgZ,lgS]
         refine RG.RunsIf.weak (v:=.int .i64 (k : Int)) (by rfl) (by rfl) (fun Z hT => ?_) ?_
         ·go_simp
         simp only [Act.put,lpA,lpZ,lpS,lgT,lgZ,lgS]
         iterate 2
          refine RG.RunsIf.weak (v:=?_) (by rfl) (by rfl) (fun Z hT => ?_) ?_
          rotate_left
          ·go_simp
           rfl
          simp only [Act.put,lpA,lpZ,lpS,lgT,lgZ,lgS]
         refine RG.RunsIf.weak (v:=.int .i64 (k : Int)) (by rfl) (by rfl) (fun Z hT => ?_) ?_
         ·go_simp
         simp only [Act.put,lpA,lpZ,lpS,lgT,lgZ,lgS]
         refine RG.RunsIf.weak (v:=?_) (by rfl) (by rfl) (fun Z hT => ?_) ?_
         rotate_left
         ·go_simp
          rfl
         simp only [Act.put,lpA,lpZ,lpS,lgT,lgZ,lgS]
         refine RG.RunsIf.strong (v:=.int .i64 y0) (by rfl) (by kernel_rfl) (by rfl) (fun Z hT hS => ?_) ?_
         ·have y1:=keepC hS y1;have y2:=keepC hS y2
          go_simp
         simp only [Act.put,lpA,lpZ,lpS,lgT,lgZ,lgS]
         iterate 3
          refine RG.RunsIf.weak (v:=?_) (by rfl) (by rfl) (fun Z hT => ?_) ?_
          rotate_left
          ·go_simp
           rfl
          simp only [Act.put,lpA,lpZ,lpS,lgT,lgZ,lgS]
         refine RG.RunsIf.strong (v:=.int .i64 x) (by rfl) (by kernel_rfl) (by rfl) (fun Z hT hS => ?_) ?_
         ·have y1:=keepC hS y1;have y2:=keepC hS y2
          go_simp
         simp only [Act.put,lpA,lpZ,lpS,lgT,lgZ,lgS]
         refine RG.RunsIf.weak (v:=?_) (by rfl) (by rfl) (fun Z hT => ?_) ?_
         rotate_left
         ·go_simp
          rfl
         simp only [Act.put,lpA,lpZ,lpS,lgT,lgZ,lgS]
         exact RG.RunsIf.nil
        have HOy:=TW.hide (own_belowI HOr.out HBz29.out)
        obtain ⟨cz,fz⟩:=own_at9 HOy.out (k + 1) (by rw [insAt_len _ _ _ (by rw [HON.out];exact hkk)];have:=HON.out;omega)
        have HO1:=TW.hide (own_set9 HOy.out (k + 1) y0)
        refine RG.wpL_late (i:=15) (by kernel_rfl) (by rfl) (by rfl) (by kernel_rfl) (fun KX hK => ?_)
        have HK:=TW.hide hK
        clear hK
        go_simp
        refine HK.out _ _ trivial ?_
        clear HK KX cz fz HOy
        try simp only [Act.put,lpA,lpZ,lpS,lgT,lgZ,lgS]
        refine RG.wpL_take (fuel:=1) (a':=?Bz30) [16] (by kernel_rfl) (by kernel_rfl) (fun _ _ _ _ _ h => h) trivial (fun h => by cases (show false = true from h)) ?sz30 ?_
        case sz30 =>
         refine RG.RunsIf.weak (v:=?_) (by rfl) (by rfl) (fun Z hT => ?_) ?_
         rotate_left
         ·go_simp
          rfl
         simp only [Act.put,lpA,lpZ,lpS,lgT,lgZ,lgS]
         exact RG.RunsIf.nil
        obtain ⟨cz,fz⟩:=own_at9 HO1.out k (by rw [List.length_set,insAt_len _ _ _ (by rw [HON.out];exact hkk)];have:=HON.out;omega)
        have HO2:=TW.hide (own_set9 HO1.out k x)
        refine RG.wpL_late (i:=17) (by kernel_rfl) (by rfl) (by rfl) (by kernel_rfl) (fun KX hK => ?_)
        have HK:=TW.hide hK
        clear hK
        go_simp
        refine HK.out _ _ trivial ?_
        clear HK KX cz fz
        refine RG.wpL_done (by kernel_rfl) ?_ _
        refine NoPanic.normal ?_
        refine HK.out _ _ ?_
        clear HK y1 y2
        have HO3 : Hid (World.ownsRow _ _ _ _ _ _ _):=HO2
        rw [← HY0.out,insAt_swap O x k (by rw [HON.out];exact hkk)] at HO3
        rw [HY0.out] at HO3
        have HBm : Hid (Below w.heap.size w _):=((HBn.out.trans (HBz29.out.mono HBn.out.size)).setCell (p:=⟨g,k + 1,none⟩) HgB.out (.int .i64 y0)).setCell (p:=⟨g,k,none⟩) HgB.out (.int .i64 x)
        clear HO1 HO2 HBz29 HBn HOr
        go_wp2
        go_roundw
        case rel => exact ⟨k,by omega,rfl,HO3,HGt1,HBm⟩
        case measure => simp [intOf]
       ·have kle : y0 ≤ x:=by omega
        refine wp_seq_k fun K hK => ?_
        have HK:=TW.hide hK
        clear hK
        refine wp_seq_k fun K8 hK8 => ?_
        have HK8:=TW.hide hK8
        clear hK8
        refine wp_region_noPanic ?_
        refine RG.wp_region_L (fun Z => True) (fun Z => Below wr.heap.size wr Z) [] (by kernel_rfl) ?_
        refine RG.wpL_any fun Ye3 hY => ?_
        have HTe3 : Hid (Below wr.heap.size wr Ye3):=by rw [hY];exact below_drewN HXr.out 1
        clear hY
        refine RG.wpL_take (fuel:=0) (a':=?Ae3) [0,1,2,3,4,5,6,7,8,9,10,11,12,13] (by kernel_rfl) (by kernel_rfl) (fun _ _ _ _ _ h => h) HTe3.out (fun _ => trivial) ?re3 ?_
        case re3 =>
         refine RG.RunsIf.weak (v:=?_) (by rfl) (by rfl) (fun Z hT => ?_) ?_
         rotate_left
         ·go_simp
          rfl
         simp only [Act.put,lpA,lpZ,lpS,lgT,lgZ,lgS]
         iterate 2
          refine RG.RunsIf.weak (v:=.bool true) (by rfl) (by rfl) (fun Z hT => ?_) ?_
          ·go_simp
          simp only [Act.put,lpA,lpZ,lpS,lgT,lgZ,lgS]
         iterate 3
          refine RG.RunsIf.weak (v:=?_) (by rfl) (by rfl) (fun Z hT => ?_) ?_
          rotate_left
          ·go_simp
           rfl
          simp only [Act.put,lpA,lpZ,lpS,lgT,lgZ,lgS]
         refine RG.RunsIf.weak (v:=.int .i64 x) (by rfl) (by rfl) (fun Z hT => ?_) ?_
         ·have y1:=keepC hT y1;have y2:=keepC hT y2
          go_simp
         simp only [Act.put,lpA,lpZ,lpS,lgT,lgZ,lgS]
         iterate 2
          refine RG.RunsIf.weak (v:=?_) (by rfl) (by rfl) (fun Z hT => ?_) ?_
          rotate_left
          ·go_simp
           rfl
          simp only [Act.put,lpA,lpZ,lpS,lgT,lgZ,lgS]
         refine RG.RunsIf.weak (v:=.int .i64 (k : Int)) (by rfl) (by rfl) (fun Z hT => ?_) ?_
         ·go_simp
         simp only [Act.put,lpA,lpZ,lpS,lgT,lgZ,lgS]
         refine RG.RunsIf.weak (v:=?_) (by rfl) (by rfl) (fun Z hT => ?_) ?_
         rotate_left
         ·go_simp
          rfl
         simp only [Act.put,lpA,lpZ,lpS,lgT,lgZ,lgS]
         refine RG.RunsIf.weak (v:=.int .i64 y0) (by rfl) (by rfl) (fun Z hT => ?_) ?_
         ·have y1:=keepC hT y1;have y2:=keepC hT y2
          go_simp
         simp only [Act.put,lpA,lpZ,lpS,lgT,lgZ,lgS]
         refine RG.RunsIf.weak (v:=.bool false) (by rfl) (by rfl) (fun Z hT => ?_) ?_
         ·go_simp
         simp only [Act.put,lpA,lpZ,lpS,lgT,lgZ,lgS]
         refine RG.RunsIf.weak (v:=.bool false) (by rfl) (by rfl) (fun Z hT => ?_) ?_
         ·(go_simp) <;> rfl
         simp only [Act.put,lpA,lpZ,lpS,lgT,lgZ,lgS]
         exact RG.RunsIf.nil
        refine RG.wpL_done (by kernel_rfl) ?_ _
        refine NoPanic.normal ?_
        refine HK8.out _ _ ?_
        clear HK8
        have HBn : Hid (Below w.heap.size w Ye3):=HBr.out.trans (HTe3.out.mono HBr.out.size)
        have HOn:=TW.hide (own_belowI HOr.out HTe3.out)
        have hyx : O.getD (k + 1 - 1) 0 < x:=by
         rw [Nat.add_sub_cancel,HY0.out]
         have hne : y0 ≠ x:=fun e => HNi.out (by
          rw [← e,← HY0.out,List.getD_eq_getElem?_getD,List.getElem?_eq_getElem (by rw [HON.out];exact hkk)]
          exact List.getElem_mem _)
         omega
        go_wp2
        have hord:=insAt_ord O x (k + 1) HO2o.out (by rw [HON.out];omega) HGt.out (.inr hyx)
        have hmem : ∀ y,y ∈ insAt O x (k + 1) ↔ (y ∈ xs.take (i + 1) ∧ 0 ≤ y):=fun y => by
         rw [insAt_mem,HMe.out,HTk.out,List.mem_append,List.mem_singleton]
         constructor
         ·rintro (rfl | ⟨h1,h2⟩)
          ·exact ⟨.inr rfl,HX0.out⟩
          ·exact ⟨.inl h1,h2⟩
         ·rintro ⟨h1 | h1,h2⟩
          ·exact .inr ⟨h1,h2⟩
          ·exact .inl h1
        have hil : (insAt O x (k + 1)).length = ON + 1:=by rw [insAt_len _ _ _ (by rw [HON.out];omega),HON.out]
        have HR1:=TW.hide hord
        have HR2:=TW.hide hmem
        have HR3:=TW.hide hil
        refine HKb.out _ _ ?_
        go_wp2
        go_roundw
        case rel => exact ⟨i + 1,insAt O x (k + 1),_,_,ON + 1,HLT.out,by go_num,rfl,HR3,by omega,HOn,HR1,HR2,HBn⟩
        case measure => simp [intOf];have:=HLT.out;omega
  ·obtain rfl : i = N:=by omega
   have kk : ¬ (i : Int) < (i : Int):=by omega
   have HR:=TW.hide (HPo.out wr (.slice oa ON oc) O (by rw [HON.out];exact HO.out) HO2o.out (fun y => by rw [HMe.out,← HL.out,List.take_length]) (by rw [HON.out,HL.out];exact hOi) HB.out)
   clear HPo HO HO2o HMe hlt
   go_wp2
   refine HK.out _ _ ?_
   go_wp2
   first | exact HR.out | exact ⟨rfl,HR.out⟩
end LW
end Go.Proofs.Ythcndgnpmefefaa
namespace Go.Proofs.Ythcndgnpmefefaa
open Go
namespace Tr
open Mc
theorem rn_step (l : List Ev) (p : Nat) (hp : p < l.length) : rnC (l.take (p + 1)) = rnC (l.take p) + (if (ev l p).op = 14 ∧ (ev l p).value ≠ 0 then 1 else 0):=by
 rw [take_snoc l p hp,rnC_snoc]
 rfl
theorem rn_mono' (l : List Ev) {m n : Nat} (h : m ≤ n) (hn : n ≤ l.length) : rnC (l.take m) ≤ rnC (l.take n):=by
 induction n with
 | zero =>
      obtain rfl : m = 0:=by omega
      exact Nat.le_refl _
 | succ n ih =>
  rcases Nat.lt_or_eq_of_le h with h1 | rfl
  ·have:=ih (by omega) (by omega)
   rw [rn_step l n (by omega)]
   omega
  ·exact Nat.le_refl _
theorem start_one {s : Syst} {l : List Ev} (hg : Gd s l l.length) {p q : Nat} {v : Int} (hp : p < l.length) (hq : q < l.length) (h1 : (ev l p).op = 14 ∧ (ev l p).value = v) (h2 : (ev l q).op = 14 ∧ (ev l q).value = v) (hv : 0 < v) : p = q:=by
 have key : ∀ {p q : Nat},p < q → q < l.length → (ev l p).op = 14 ∧ (ev l p).value = v → (ev l q).op = 14 ∧ (ev l q).value = v → False:=fun {p q} hpq hq h1 h2 => by
  have a1:=(hg p (by omega)).st h1.1
  have a2:=(hg q hq).st h2.1
  have e1 : (l.getD p e0).value = v:=h1.2
  have e2 : (l.getD q e0).value = v:=h2.2
  have b1:=rn_step l p (by omega)
  rw [if_pos ⟨h1.1,by rw [h1.2];omega⟩] at b1
  have b2:=rn_mono' l (show p + 1 ≤ q by omega) (by omega)
  omega
 rcases Nat.lt_trichotomy p q with h | h | h
 ·exact (key h hq h1 h2).elim
 ·exact h
 ·exact (key h hp h2 h1).elim
structure LaB (l : List Ev) (j i : Nat) (la bo : Int) : Prop where
 la : (la = -1 ∧ ∀ k,k < i → (ev l k).who ≠ (ev l j).who) ∨ ∃ p : Nat,p < i ∧ la = p ∧ (ev l p).who = (ev l j).who ∧ ∀ k,p < k → k < i → (ev l k).who ≠ (ev l j).who
 bo : (bo = -1 ∧ ∀ k,k < i → ¬ ((ev l k).op = 14 ∧ (ev l k).value = (ev l j).who ∧ 0 < (ev l j).who)) ∨ ∃ p : Nat,p < i ∧ bo = p ∧ (ev l p).op = 14 ∧ (ev l p).value = (ev l j).who ∧ 0 < (ev l j).who
theorem LaB.zero (l : List Ev) (j : Nat) : LaB l j 0 (-1) (-1):=⟨.inl ⟨rfl,fun k hk => by omega⟩,.inl ⟨rfl,fun k hk => by omega⟩⟩
theorem LaB.next {l : List Ev} {j i : Nat} {la bo : Int} (h : LaB l j i la bo) : LaB l j (i + 1) (if (ev l i).who = (ev l j).who then (i : Int) else la) (if (ev l i).op = 14 ∧ (ev l i).value = (ev l j).who ∧ 0 < (ev l j).who then (i : Int) else bo):=by
 refine ⟨?_,?_⟩
 ·by_cases hw : (ev l i).who = (ev l j).who
  ·rw [if_pos hw]
   exact .inr ⟨i,by omega,rfl,hw,fun k h1 h2 => by omega⟩
  ·rw [if_neg hw]
   rcases h.la with ⟨h1,h2⟩ | ⟨p,h1,h2,h3,h4⟩
   ·refine .inl ⟨h1,fun k hk => ?_⟩
    by_cases e : k = i
    ·rw [e];exact hw
    ·exact h2 k (by omega)
   ·refine .inr ⟨p,by omega,h2,h3,fun k h5 h6 => ?_⟩
    by_cases e : k = i
    ·rw [e];exact hw
    ·exact h4 k h5 (by omega)
 ·by_cases hw : (ev l i).op = 14 ∧ (ev l i).value = (ev l j).who ∧ 0 < (ev l j).who
  ·rw [if_pos hw]
   exact .inr ⟨i,by omega,rfl,hw⟩
  ·rw [if_neg hw]
   rcases h.bo with ⟨h1,h2⟩ | ⟨p,h1,h2⟩
   ·refine .inl ⟨h1,fun k hk => ?_⟩
    by_cases e : k = i
    ·rw [e];exact hw
    ·exact h2 k (by omega)
   ·exact .inr ⟨p,by omega,h2⟩
theorem LaB.e12 {s : Syst} {l : List Ev} (hg : Gd s l l.length) {j : Nat} (hj : j < l.length) {la bo : Int} (h : LaB l j j la bo) (x : Int) : (0 ≤ x ∧ ((0 ≤ la ∧ x = la) ∨ (la < 0 ∧ x = bo))) ↔ ∃ i : Nat,x = (i : Int) ∧ (E1 l i j ∨ E2 l i j):=by
 constructor
 ·rintro ⟨h0,⟨h1,rfl⟩ | ⟨h1,rfl⟩⟩
  ·rcases h.la with ⟨h2,_⟩ | ⟨p,h2,h3,h4,h5⟩
   ·omega
   ·exact ⟨p,h3,.inl ⟨h2,h4,h5⟩⟩
  ·rcases h.la with ⟨_,h3⟩ | ⟨p,h2,h3,h4,h5⟩
   ·rcases h.bo with ⟨h4,_⟩ | ⟨p,h4,h5,h6,h7,h8⟩
    ·omega
    ·exact ⟨p,h5,.inr ⟨h4,h6,h7,h8,h3⟩⟩
   ·omega
 ·rintro ⟨i,rfl,⟨h1,h2,h3⟩ | ⟨h1,h2,h3,h4,h5⟩⟩
  ·refine ⟨by omega,.inl ?_⟩
   rcases h.la with ⟨_,h4⟩ | ⟨p,h4,h5,h6,h7⟩
   ·exact absurd h2 (h4 i h1)
   ·have : p = i:=by
     rcases Nat.lt_trichotomy p i with h8 | h8 | h8
     ·exact absurd h2 (h7 i h8 h1)
     ·exact h8
     ·exact absurd h6 (h3 p h8 h4)
    omega
  ·refine ⟨by omega,.inr ?_⟩
   rcases h.la with ⟨h6,_⟩ | ⟨p,h6,_,h8,_⟩
   ·rcases h.bo with ⟨_,h7⟩ | ⟨p,h7,h8,h9,h10,h11⟩
    ·exact absurd ⟨h2,h3,h4⟩ (h7 i h1)
    ·have:=start_one hg (by omega) (by omega) ⟨h9,h10⟩ ⟨h2,h3⟩ h4
     omega
   ·exact absurd h8 (h5 p h6)
theorem cl_iff (l : List Ev) (c : Int) (n : Nat) (hn : n ≤ l.length) : clC (l.take n) c = false ↔ ∀ k,k < n → ¬ ((ev l k).op = 7 ∧ (ev l k).a = c):=by
 induction n with
 | zero => simp [clC]
 | succ n ih =>
  rw [take_snoc l n (by omega),clC_snoc,Bool.or_eq_false_iff,ih (by omega)]
  constructor
  ·rintro ⟨h1,h2⟩ k hk
   by_cases e : k = n
   ·rw [e];exact of_decide_eq_false h2
   ·exact h1 k (by omega)
  ·intro h
   exact ⟨fun k hk => h k (by omega),decide_eq_false (h n (by omega))⟩
theorem e5_iff (l : List Ev) (j i : Nat) (hj : j < l.length) (h6 : (ev l j).op = 6) (hs : (ev l j).shut = true) : E5 l i j ↔ (i < j ∧ ((ev l i).op = 7 ∧ (ev l i).a = (ev l j).a) ∧ ∀ k,k < i → ¬ ((ev l k).op = 7 ∧ (ev l k).a = (ev l j).a)):=by
 unfold E5
 constructor
 ·rintro ⟨h1,_,_,h2,h3,h4⟩
  exact ⟨h1,⟨h2,h3⟩,(cl_iff l _ i (by omega)).1 h4⟩
 ·rintro ⟨h1,⟨h2,h3⟩,h4⟩
  exact ⟨h1,h6,hs,h2,h3,(cl_iff l _ i (by omega)).2 h4⟩
theorem eg_none {s : Syst} {l : List Ev} {i j : Nat} (h5 : (ev l j).op ≠ 5) (h6 : (ev l j).op ≠ 6) (h8 : (ev l j).op ≠ 8) (h11 : (ev l j).op ≠ 11) : Eg s l i j ↔ (E1 l i j ∨ E2 l i j):=by
 unfold Eg EL
 constructor
 ·rintro ((h | h | h | h | h | h) | h)
  ·exact .inl h
  ·exact .inr h
  ·exact absurd h.2.1 h6
  ·exact absurd h.2.1 h5
  ·exact absurd h.2.1 h6
  ·exact absurd h.2.1 h8
  ·exact absurd h.2.1 h11
 ·rintro (h | h)
  ·exact .inl (.inl h)
  ·exact .inl (.inr (.inl h))
theorem eg_6s {s : Syst} {l : List Ev} {i j : Nat} (h6 : (ev l j).op = 6) (hs : (ev l j).shut = true) : Eg s l i j ↔ ((E1 l i j ∨ E2 l i j) ∨ E5 l i j):=by
 unfold Eg EL
 constructor
 ·rintro ((h | h | h | h | h | h) | h)
  ·exact .inl (.inl h)
  ·exact .inl (.inr h)
  ·have:=h.2.2.1;rw [hs] at this;cases this
  ·have:=h.2.1;omega
  ·exact .inr h
  ·have:=h.2.1;omega
  ·have:=h.2.1;omega
 ·rintro ((h | h) | h)
  ·exact .inl (.inl h)
  ·exact .inl (.inr (.inl h))
  ·exact .inl (.inr (.inr (.inr (.inr (.inl h)))))
theorem eg_6 {s : Syst} {l : List Ev} {i j : Nat} (h6 : (ev l j).op = 6) (hs : (ev l j).shut = false) : Eg s l i j ↔ ((E1 l i j ∨ E2 l i j) ∨ E3 l i j):=by
 unfold Eg EL
 constructor
 ·rintro ((h | h | h | h | h | h) | h)
  ·exact .inl (.inl h)
  ·exact .inl (.inr h)
  ·exact .inr h
  ·have:=h.2.1;omega
  ·have:=h.2.2.1;rw [hs] at this;cases this
  ·have:=h.2.1;omega
  ·have:=h.2.1;omega
 ·rintro ((h | h) | h)
  ·exact .inl (.inl h)
  ·exact .inl (.inr (.inl h))
  ·exact .inl (.inr (.inr (.inl h)))
theorem eg_5 {s : Syst} {l : List Ev} {i j : Nat} (h5 : (ev l j).op = 5) : Eg s l i j ↔ ((E1 l i j ∨ E2 l i j) ∨ E4 s l i j):=by
 unfold Eg EL
 constructor
 ·rintro ((h | h | h | h | h | h) | h)
  ·exact .inl (.inl h)
  ·exact .inl (.inr h)
  ·have:=h.2.1;omega
  ·exact .inr h
  ·have:=h.2.1;omega
  ·have:=h.2.1;omega
  ·have:=h.2.1;omega
 ·rintro ((h | h) | h)
  ·exact .inl (.inl h)
  ·exact .inl (.inr (.inl h))
  ·exact .inl (.inr (.inr (.inr (.inl h))))
theorem eg_8 {s : Syst} {l : List Ev} {i j : Nat} (h8 : (ev l j).op = 8) : Eg s l i j ↔ ((E1 l i j ∨ E2 l i j) ∨ E6 l i j):=by
 unfold Eg EL
 constructor
 ·rintro ((h | h | h | h | h | h) | h)
  ·exact .inl (.inl h)
  ·exact .inl (.inr h)
  ·have:=h.2.1;omega
  ·have:=h.2.1;omega
  ·have:=h.2.1;omega
  ·exact .inr h
  ·have:=h.2.1;omega
 ·rintro ((h | h) | h)
  ·exact .inl (.inl h)
  ·exact .inl (.inr (.inl h))
  ·exact .inl (.inr (.inr (.inr (.inr (.inr h)))))
theorem eg_11 {s : Syst} {l : List Ev} {i j : Nat} (h11 : (ev l j).op = 11) : Eg s l i j ↔ ((E1 l i j ∨ E2 l i j) ∨ E7 l i j):=by
 unfold Eg EL
 constructor
 ·rintro ((h | h | h | h | h | h) | h)
  ·exact .inl (.inl h)
  ·exact .inl (.inr h)
  ·have:=h.2.1;omega
  ·have:=h.2.1;omega
  ·have:=h.2.1;omega
  ·have:=h.2.1;omega
  ·exact .inr h
 ·rintro ((h | h) | h)
  ·exact .inl (.inl h)
  ·exact .inl (.inr (.inl h))
  ·exact .inr h
theorem e6_iff (l : List Ev) (j i af : Nat) (h8 : (ev l j).op = 8) (ha : (af = 0 ∧ ∀ k,k < j → ¬ ((ev l k).op = 8 ∧ (ev l k).a = (ev l j).a)) ∨ (af < j ∧ ((ev l af).op = 8 ∧ (ev l af).a = (ev l j).a) ∧ ∀ k,af < k → k < j → ¬ ((ev l k).op = 8 ∧ (ev l k).a = (ev l j).a))) : E6 l i j ↔ (af ≤ i ∧ i < j ∧ (ev l i).op = 9 ∧ (ev l i).a = (ev l j).a):=by
 unfold E6
 constructor
 ·rintro ⟨h1,_,h2,h3,h4⟩
  refine ⟨?_,h1,h2,h3⟩
  rcases ha with ⟨h5,_⟩ | ⟨h5,h6,_⟩
  ·omega
  ·rcases Nat.lt_or_ge i af with h7 | h7
   ·exact absurd h6 (h4 af h7 h5)
   ·exact h7
 ·rintro ⟨h1,h2,h3,h4⟩
  refine ⟨h2,h8,h3,h4,fun k h5 h6 => ?_⟩
  rcases ha with ⟨_,h7⟩ | ⟨_,_,h7⟩
  ·exact h7 k h6
  ·exact h7 k (by omega) h6
def nuC (l : List Ev) (j i : Nat) : Nat:=if (ev l j).op = 5 then snC (l.take i) (ev l j).a else if (ev l j).op = 6 ∧ (ev l j).shut = false then tkC (l.take i) (ev l j).a else 0
theorem nuC_le (l : List Ev) (j i : Nat) (hi : i ≤ l.length) : nuC l j i ≤ i:=by
 unfold nuC
 have h1:=snC_len (l.take i) (ev l j).a
 have h2:=tkC_len (l.take i) (ev l j).a
 rw [List.length_take] at h1 h2
 split
 ·omega
 ·split <;> omega
theorem nuC_next (l : List Ev) (j i : Nat) (hi : i < l.length) : nuC l j (i + 1) = nuC l j i + (if (((ev l j).op = 5 ∧ (ev l i).op = 5) ∨ ((ev l j).op = 6 ∧ (ev l j).shut = false ∧ (ev l i).op = 6 ∧ (ev l i).shut = false)) ∧ (ev l i).a = (ev l j).a then 1 else 0):=by
 unfold nuC
 rw [take_snoc l i hi]
 by_cases h5 : (ev l j).op = 5
 ·rw [if_pos h5,if_pos h5,snC_snoc]
  have e : (l.getD i e0) = ev l i:=rfl
  rw [e]
  by_cases h : (ev l i).op = 5 ∧ (ev l i).a = (ev l j).a
  ·rw [if_pos h,if_pos ⟨.inl ⟨h5,h.1⟩,h.2⟩]
  ·rw [if_neg h,if_neg]
   rintro ⟨h1 | h1,h2⟩
   ·exact h ⟨h1.2,h2⟩
   ·omega
 ·rw [if_neg h5,if_neg h5]
  by_cases h6 : (ev l j).op = 6 ∧ (ev l j).shut = false
  ·rw [if_pos h6,if_pos h6,tkC_snoc]
   have e : (l.getD i e0) = ev l i:=rfl
   rw [e]
   by_cases h : (ev l i).op = 6 ∧ (ev l i).shut = false ∧ (ev l i).a = (ev l j).a
   ·rw [if_pos h,if_pos ⟨.inr ⟨h6.1,h6.2,h.1,h.2.1⟩,h.2.2⟩]
   ·rw [if_neg h,if_neg]
    rintro ⟨h1 | h1,h2⟩
    ·exact h5 h1.1
    ·exact h ⟨h1.2.2.1,h1.2.2.2,h2⟩
  ·rw [if_neg h6,if_neg h6,if_neg]
   rintro ⟨h1 | h1,h2⟩
   ·exact h5 h1.1
   ·exact h6 ⟨h1.1,h1.2.1⟩
end Tr
end Go.Proofs.Ythcndgnpmefefaa
set_option maxRecDepth 100000
namespace Go.Proofs.Ythcndgnpmefefaa
open Mc
namespace Tr
theorem cP_one {p : Ev → Bool} (l : List Ev) {k q : Nat} (h : k < q) (hq : q ≤ l.length) (hp : p (l.getD k e0) = true) : (l.take k).countP p < (l.take q).countP p:=by
 have h1 : (l.take (k + 1)).countP p ≤ (l.take q).countP p:=by
  have e : l.take (k + 1) = (l.take q).take (k + 1):=by rw [List.take_take,Nat.min_eq_left (by omega)]
  rw [e]
  exact (List.take_sublist _ _).countP_le
 rw [take_snoc l k (by omega),List.countP_append,List.countP_cons,List.countP_nil,if_pos hp] at h1
 omega
theorem sn_one (l : List Ev) {c : Int} {k q : Nat} (hk : k < l.length) (hq : q < l.length) (h1 : (ev l k).op = 5 ∧ (ev l k).a = c) (h2 : (ev l q).op = 5 ∧ (ev l q).a = c) (h : snC (l.take k) c = snC (l.take q) c) : k = q:=by
 unfold snC at h
 rcases Nat.lt_trichotomy k q with g | g | g
 ·have:=cP_one (p:=fun e => decide (e.op = 5 ∧ e.a = c)) l g (by omega) (decide_eq_true h1)
  omega
 ·exact g
 ·have:=cP_one (p:=fun e => decide (e.op = 5 ∧ e.a = c)) l g (by omega) (decide_eq_true h2)
  omega
theorem tk_one (l : List Ev) {c : Int} {k q : Nat} (hk : k < l.length) (hq : q < l.length) (h1 : (ev l k).op = 6 ∧ (ev l k).shut = false ∧ (ev l k).a = c) (h2 : (ev l q).op = 6 ∧ (ev l q).shut = false ∧ (ev l q).a = c) (h : tkC (l.take k) c = tkC (l.take q) c) : k = q:=by
 unfold tkC at h
 rcases Nat.lt_trichotomy k q with g | g | g
 ·have:=cP_one (p:=fun e => decide (e.op = 6 ∧ e.shut = false ∧ e.a = c)) l g (by omega) (decide_eq_true h1)
  omega
 ·exact g
 ·have:=cP_one (p:=fun e => decide (e.op = 6 ∧ e.shut = false ∧ e.a = c)) l g (by omega) (decide_eq_true h2)
  omega
theorem in_one {s : Syst} {l : List Ev} {j : Nat} {O : List Int} {r : Int} {P : Nat → Prop} (hO : ∀ x,x ∈ O ↔ ∃ k : Nat,x = (k : Int) ∧ (E1 l k j ∨ E2 l k j)) (hE : ∀ k,Eg s l k j ↔ ((E1 l k j ∨ E2 l k j) ∨ P k)) (hr : (∃ k : Nat,r = (k : Int) ∧ P k ∧ ∀ q,P q → q = k) ∨ (r < 0 ∧ ∀ q,¬ P q)) (x : Int) : (x ∈ O ++ [r] ∧ 0 ≤ x) ↔ ∃ k : Nat,x = (k : Int) ∧ Eg s l k j:=by
 rw [List.mem_append,List.mem_singleton,hO x]
 constructor
 ·rintro ⟨⟨k,rfl,h⟩ | rfl,h0⟩
  ·exact ⟨k,rfl,(hE k).2 (.inl h)⟩
  ·rcases hr with ⟨k,rfl,hp,_⟩ | ⟨h1,_⟩
   ·exact ⟨k,rfl,(hE k).2 (.inr hp)⟩
   ·omega
 ·rintro ⟨k,rfl,h⟩
  rcases (hE k).1 h with h | h
  ·exact ⟨.inl ⟨k,rfl,h⟩,by omega⟩
  ·rcases hr with ⟨q,rfl,_,hu⟩ | ⟨_,hn⟩
   ·exact ⟨.inr (by rw [hu k h]),by omega⟩
   ·exact absurd h (hn k)
theorem in_e3 {l : List Ev} {j nu : Nat} {r : Int} (hj : j < l.length) (h6 : (ev l j).op = 6) (hs : (ev l j).shut = false) (hn : nuC l j j = nu) (hr : (∃ i,i < j ∧ ((ev l i).op = 5 ∧ (ev l i).a = (ev l j).a) ∧ snC (l.take i) (ev l j).a = nu ∧ r = (i : Int)) ∨ (r = -1 ∧ ∀ i,i < j → ((ev l i).op = 5 ∧ (ev l i).a = (ev l j).a) → snC (l.take i) (ev l j).a ≠ nu)) : (∃ k : Nat,r = (k : Int) ∧ E3 l k j ∧ ∀ q,E3 l q j → q = k) ∨ (r < 0 ∧ ∀ q,¬ E3 l q j):=by
 have ht : tkC (l.take j) (ev l j).a = nu:=by
  rw [← hn]
  unfold nuC
  rw [if_neg (by omega),if_pos ⟨h6,hs⟩]
 rcases hr with ⟨i,h1,h2,h3,rfl⟩ | ⟨rfl,h⟩
 ·refine .inl ⟨i,rfl,⟨h1,h6,hs,h2.1,h2.2,by rw [h3,ht]⟩,fun q hq => ?_⟩
  obtain ⟨g1,_,_,g2,g3,g4⟩:=hq
  exact sn_one l (by omega) (by omega) ⟨g2,g3⟩ h2 (by rw [g4,ht,h3])
 ·refine .inr ⟨by omega,fun q hq => ?_⟩
  obtain ⟨g1,_,_,g2,g3,g4⟩:=hq
  exact h q g1 ⟨g2,g3⟩ (by rw [g4,ht])
theorem in_e4 {s : Syst} {l : List Ev} {j nu n : Nat} {r : Int} (hj : j < l.length) (h5 : (ev l j).op = 5) (hn : nuC l j j = nu) (hm : (n : Int) + s.rooms.getD (ev l j).a.toNat 0 = (nu : Int)) (hr : (∃ i,i < j ∧ ((ev l i).op = 6 ∧ (ev l i).shut = false ∧ (ev l i).a = (ev l j).a) ∧ tkC (l.take i) (ev l j).a = n ∧ r = (i : Int)) ∨ (r = -1 ∧ ∀ i,i < j → ((ev l i).op = 6 ∧ (ev l i).shut = false ∧ (ev l i).a = (ev l j).a) → tkC (l.take i) (ev l j).a ≠ n)) : (∃ k : Nat,r = (k : Int) ∧ E4 s l k j ∧ ∀ q,E4 s l q j → q = k) ∨ (r < 0 ∧ ∀ q,¬ E4 s l q j):=by
 have ht : snC (l.take j) (ev l j).a = nu:=by
  rw [← hn]
  unfold nuC
  rw [if_pos h5]
 rcases hr with ⟨i,h1,h2,h3,rfl⟩ | ⟨rfl,h⟩
 ·refine .inl ⟨i,rfl,⟨h1,h5,h2.1,h2.2.1,h2.2.2,by rw [h3,ht];exact hm⟩,fun q hq => ?_⟩
  obtain ⟨g1,_,g2,g3,g4,g5⟩:=hq
  exact tk_one l (by omega) (by omega) ⟨g2,g3,g4⟩ h2 (by rw [ht] at g5;omega)
 ·refine .inr ⟨by omega,fun q hq => ?_⟩
  obtain ⟨g1,_,g2,g3,g4,g5⟩:=hq
  exact h q g1 ⟨g2,g3,g4⟩ (by rw [ht] at g5;omega)
theorem no_e4 {s : Syst} {l : List Ev} {j nu : Nat} (h5 : (ev l j).op = 5) (hn : nuC l j j = nu) (hm : (nu : Int) < s.rooms.getD (ev l j).a.toNat 0) (q : Nat) : ¬ E4 s l q j:=by
 have ht : snC (l.take j) (ev l j).a = nu:=by
  rw [← hn]
  unfold nuC
  rw [if_pos h5]
 rintro ⟨_,_,_,_,_,g⟩
 rw [ht] at g
 omega
theorem in_e5 {l : List Ev} {j i : Nat} (hj : j < l.length) (h6 : (ev l j).op = 6) (hs : (ev l j).shut = true) (hi : i < j) (h1 : (ev l i).op = 7 ∧ (ev l i).a = (ev l j).a) (h2 : ∀ k,k < i → ¬ ((ev l k).op = 7 ∧ (ev l k).a = (ev l j).a)) : (∃ k : Nat,(i : Int) = (k : Int) ∧ E5 l k j ∧ ∀ q,E5 l q j → q = k) ∨ ((i : Int) < 0 ∧ ∀ q,¬ E5 l q j):=by
 refine .inl ⟨i,rfl,(e5_iff l j i hj h6 hs).2 ⟨hi,h1,h2⟩,fun q hq => ?_⟩
 obtain ⟨g1,g2,g3⟩:=(e5_iff l j q hj h6 hs).1 hq
 rcases Nat.lt_trichotomy q i with g | g | g
 ·exact absurd g2 (h2 q g)
 ·exact g
 ·exact absurd h1 (g3 i g)
theorem no_e5 {l : List Ev} {j : Nat} (hj : j < l.length) (h6 : (ev l j).op = 6) (hs : (ev l j).shut = true) (h2 : ∀ k,k < j → ¬ ((ev l k).op = 7 ∧ (ev l k).a = (ev l j).a)) (q : Nat) : ¬ E5 l q j:=fun h => by
 obtain ⟨g1,g2,_⟩:=(e5_iff l j q hj h6 hs).1 h
 exact h2 q g1 g2
theorem in_none {s : Syst} {l : List Ev} {j : Nat} {O : List Int} {P : Nat → Prop} (hO : ∀ x,x ∈ O ↔ ∃ k : Nat,x = (k : Int) ∧ (E1 l k j ∨ E2 l k j)) (hE : ∀ k,Eg s l k j ↔ ((E1 l k j ∨ E2 l k j) ∨ P k)) (hn : ∀ q,¬ P q) (x : Int) : (x ∈ O ∧ 0 ≤ x) ↔ ∃ k : Nat,x = (k : Int) ∧ Eg s l k j:=by
 rw [hO x]
 constructor
 ·rintro ⟨⟨k,rfl,h⟩,_⟩
  exact ⟨k,rfl,(hE k).2 (.inl h)⟩
 ·rintro ⟨k,rfl,h⟩
  rcases (hE k).1 h with h | h
  ·exact ⟨⟨k,rfl,h⟩,by omega⟩
  ·exact absurd h (hn k)
end Tr
end Go.Proofs.Ythcndgnpmefefaa
