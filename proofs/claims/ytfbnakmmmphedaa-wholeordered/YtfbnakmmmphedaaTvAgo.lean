/-
  Tv1, Tv2, Tv3, Tv4, Tv5 in one.
-/
import Derived.Test.YtfbnakmmmphedaaTrAo
import Derived.Test.YtfbnakmmmphedaaHndo
import Derived.Test.YtfbnakmmmphedaaSwo
import Derived.Maps.OwnSet
import Derived.Test.YtfbnakmmmphedaaErTo
import Derived.Laws.OwnMore
import Derived.Test.YtfbnakmmmphedaaOrd2o
set_option linter.unusedVariables false
set_option linter.unusedSimpArgs false
set_option maxRecDepth 100000
set_option maxHeartbeats 4000000
namespace Go.Proofs.Ytfbnakmmmphedaa
open Go.RowKit
namespace LW
open Mc
def thM (r n : Nat) (gr lk ce op : Int) : Int × Bool:=if op = 5 ∨ op = 6 ∨ op = 7 then ((r : Int),true) else if op = 8 ∨ op = 9 then (lk,true) else if op = 10 ∨ op = 11 then (gr,true) else if op = 12 ∨ op = 13 then (ce,true) else if op = 14 then ((n : Int),true) else (0,false)
theorem thM_mn (s : Syst) (op : Int) : Tr.mnC s op = if (thM s.rooms.length s.progs.length s.groups s.locks s.cells op).2 = true then some (thM s.rooms.length s.progs.length s.groups s.locks s.cells op).1 else none:=by
 unfold Tr.mnC thM
 split
 ·rfl
 split
 ·rfl
 split
 ·rfl
 split
 ·rfl
 split
 ·rfl
 rfl
theorem pthings (pa : Option Addr) (n pc : Nat) (ra : Option Addr) (r rc : Nat) (gr lk ce op : Int) (w : World) :
  Calls Try.prog 43 #[.agg #[.slice pa n pc,.slice ra r rc,.int .i64 gr,.int .i64 lk,.int .i64 ce],.int .i64 op] w fun e w' => e = .returned (.tuple #[.int .i64 (thM r n gr lk ce op).1,.bool (thM r n gr lk ce op).2]) ∧ Below w.heap.size w w':=by
 have hA : Below w.heap.size w (w.alloc (.cells #[.slice pa n pc,.slice ra r rc,.int .i64 gr,.int .i64 lk,.int .i64 ce] 30)):=(Below.refl _ _).alloc (Nat.le_refl _) _
 have N1 : Hid ((w.alloc (.cells #[.slice pa n pc,.slice ra r rc,.int .i64 gr,.int .i64 lk,.int .i64 ce] 30)).heap[w.heap.size]? = some (.cells #[.slice pa n pc,.slice ra r rc,.int .i64 gr,.int .i64 lk,.int .i64 ce] 30 (0,0))):=heap_alloc_new w _
 have NB:=ζ hA
 clear hA
 go_enter Try.func43,Try.ntmps43
 refine wp_seq_k fun K hK => ?_
 have HK:=ζ hK
 clear hK
 go_wp2
 refine HK.out _ _ ?_
 clear HK K
 generalize w.alloc _ = X at *
 obtain ⟨y0,y1,y2,y3,y4⟩:=cellsY5 N1.out
 by_cases h5 : op = 5
 ·have HE : Hid (thM r n gr lk ce op = ((r : Int),true)):=by show _ = _;rw [h5];rfl
  have k5 : (op == 5) = true:=by simp [h5]
  rw [HE.out];clear HE h5;go_wp2;go_ret2
  exact ⟨rfl,NB.out⟩
 have k5 : (op == 5) = false:=by simp [h5]
 by_cases h6 : op = 6
 ·have HE : Hid (thM r n gr lk ce op = ((r : Int),true)):=by show _ = _;rw [h6];rfl
  have k6 : (op == 6) = true:=by simp [h6]
  rw [HE.out];clear HE h5 h6;go_wp2;go_ret2
  exact ⟨rfl,NB.out⟩
 have k6 : (op == 6) = false:=by simp [h6]
 by_cases h7 : op = 7
 ·have HE : Hid (thM r n gr lk ce op = ((r : Int),true)):=by show _ = _;rw [h7];rfl
  have k7 : (op == 7) = true:=by simp [h7]
  rw [HE.out];clear HE h5 h6 h7;go_wp2;go_ret2
  exact ⟨rfl,NB.out⟩
 have k7 : (op == 7) = false:=by simp [h7]
 by_cases h8 : op = 8
 ·have HE : Hid (thM r n gr lk ce op = (lk,true)):=by show _ = _;rw [h8];rfl
  have k8 : (op == 8) = true:=by simp [h8]
  rw [HE.out];clear HE h5 h6 h7 h8;go_wp2;go_ret2
  exact ⟨rfl,NB.out⟩
 have k8 : (op == 8) = false:=by simp [h8]
 by_cases h9 : op = 9
 ·have HE : Hid (thM r n gr lk ce op = (lk,true)):=by show _ = _;rw [h9];rfl
  have k9 : (op == 9) = true:=by simp [h9]
  rw [HE.out];clear HE h5 h6 h7 h8 h9;go_wp2;go_ret2
  exact ⟨rfl,NB.out⟩
 have k9 : (op == 9) = false:=by simp [h9]
 by_cases h10 : op = 10
 ·have HE : Hid (thM r n gr lk ce op = (gr,true)):=by show _ = _;rw [h10];rfl
  have k10 : (op == 10) = true:=by simp [h10]
  rw [HE.out];clear HE h5 h6 h7 h8 h9 h10;go_wp2;go_ret2
  exact ⟨rfl,NB.out⟩
 have k10 : (op == 10) = false:=by simp [h10]
 by_cases h11 : op = 11
 ·have HE : Hid (thM r n gr lk ce op = (gr,true)):=by show _ = _;rw [h11];rfl
  have k11 : (op == 11) = true:=by simp [h11]
  rw [HE.out];clear HE h5 h6 h7 h8 h9 h10 h11;go_wp2;go_ret2
  exact ⟨rfl,NB.out⟩
 have k11 : (op == 11) = false:=by simp [h11]
 by_cases h12 : op = 12
 ·have HE : Hid (thM r n gr lk ce op = (ce,true)):=by show _ = _;rw [h12];rfl
  have k12 : (op == 12) = true:=by simp [h12]
  rw [HE.out];clear HE h5 h6 h7 h8 h9 h10 h11 h12;go_wp2;go_ret2
  exact ⟨rfl,NB.out⟩
 have k12 : (op == 12) = false:=by simp [h12]
 by_cases h13 : op = 13
 ·have HE : Hid (thM r n gr lk ce op = (ce,true)):=by show _ = _;rw [h13];rfl
  have k13 : (op == 13) = true:=by simp [h13]
  rw [HE.out];clear HE h5 h6 h7 h8 h9 h10 h11 h12 h13;go_wp2;go_ret2
  exact ⟨rfl,NB.out⟩
 have k13 : (op == 13) = false:=by simp [h13]
 by_cases h14 : op = 14
 ·have HE : Hid (thM r n gr lk ce op = ((n : Int),true)):=by show _ = _;rw [h14];rfl
  have k14 : (op == 14) = true:=by simp [h14]
  rw [HE.out];clear HE h5 h6 h7 h8 h9 h10 h11 h12 h13 h14;go_wp2;go_ret2
  exact ⟨rfl,NB.out⟩
 have k14 : (op == 14) = false:=by simp [h14]
 have HE : Hid (thM r n gr lk ce op = (0,false)):=by show _ = _;unfold thM;rw [if_neg (by omega),if_neg (by omega),if_neg (by omega),if_neg (by omega),if_neg (by omega)]
 rw [HE.out]
 clear HE h5 h6 h7 h8 h9 h10 h11 h12 h13 h14
 go_wp2
 go_ret2
 exact ⟨rfl,NB.out⟩
end LW
end Go.Proofs.Ytfbnakmmmphedaa
namespace Go.Proofs.Ytfbnakmmmphedaa
open Go.RowKit
namespace LW
open Mc
theorem zeroI (w : World) : (zeroValue 3).run Try.prog w = .ok (.int .i64 0) w:=by kernel_rfl
theorem wfI {x : Int} (h : i64 x) : (Lit.int .i64 x).wf = true:=WalkArith.wf_i64 h
def MpI (W : World) (bm : Nat) (p : List Ev) : Prop:=∃ (n : Nat) (D : DataW Unit),n ≤ p.length ∧ W.ownsMap Try.prog 3 (plainElem Try.prog 3) bm n D ∧ ∀ k,i64 k → (Maps.has D (.int .i64 k) = (Tr.hdC p k).isSome) ∧ ∀ x,Tr.hdC p k = some x → ∀ z,D.atKey (.int .i64 k) z = .lit (.int .i64 x)
theorem MpI.lt {w : World} {bm : Nat} {p : List Ev} (h : MpI w bm p) : bm < w.heap.size:=by
 obtain ⟨n,D,_,h1,_⟩:=h
 exact h1.lt
theorem MpI.keep {w w' : World} {bm : Nat} {p : List Ev} (h : MpI w bm p) (hk : w'.heap[bm]? = w.heap[bm]?) : MpI w' bm p:=by
 obtain ⟨n,D,h0,⟨es,clock,hb,r⟩,h2⟩:=h
 exact ⟨n,D,h0,⟨es,clock,by rw [hk];exact hb,r⟩,h2⟩
theorem MpI.below {w w' : World} {bm : Nat} {p : List Ev} (h : MpI w bm p) (hb : Below w.heap.size w w') : MpI w' bm p:=h.keep (hb.block _ h.lt)
theorem MpI.ne {w : World} {bm b : Nat} {p : List Ev} {cs : Array Value} {t : TypeId} {fr : Nat × Nat} (h : MpI w bm p) (hb : w.heap[b]? = some (.cells cs t fr)) : bm ≠ b:=by
 obtain ⟨n,D,_,⟨es,clock,h1,_⟩,_⟩:=h
 rintro rfl
 rw [h1] at hb
 cases hb
theorem MpI.made (w : World) : MpI (w.alloc (.map #[] 0)) w.heap.size []:=by
 refine ⟨0,.map [],Nat.le_refl _,World.ownsMap_made _ _ _ _,fun k _ => ⟨rfl,fun x hx => ?_⟩⟩
 cases hx
theorem key_ne {k k' : Int} (h : k' ≠ k) : (Lit.int .i64 k') ≠ .int .i64 k:=fun e => h (by injection e)
theorem isKeyI {k : Int} (h : i64 k) : WideAt.IsKeyLit (.int .i64 k):=by
 first | exact trivial | simp [WideAt.IsKeyLit,wfI h] | exact wfI h
theorem pany (bm : Nat) (p : List Ev) (k : Int) (w : World) (h : MpI w bm p) (hk : i64 k) :
  Calls Try.prog 44 #[.map (some bm),.int .i64 k] w fun e w' => e = .returned (.bool (Tr.hdC p k).isSome) ∧ Below w.heap.size w w':=by
 obtain ⟨n,D,_,hown,hD⟩:=h
 have hh:=(hD k hk).1
 have HO:=ζ hown
 have HK':=ζ (Maps.keyOf_int_mk Try.underlying3 (wfI hk))
 rw [← hh]
 clear hD hh hown
 go_enter Try.func44,Try.ntmps44
 go_wp2_with (first | (at_lookup;refine wpList_lookup_own_ok_int _ rfl _ _ 83 rfl 3 3 .i64 (Maps.int_keyed Try.underlying3) Try.underlying83 Try.underlying3 (zeroI _) bm n D rfl HO.out _ _ rfl HK'.out ?_;intro c hat hwc) | fail)
 go_ret
 exact ⟨rfl,Below.refl _ _⟩
theorem phtake (bm : Nat) (p : List Ev) (who op a va : Int) (sh : Bool) (w : World) (h : MpI w bm p) (hw : i64 who) (ha : i64 a) (hl : p.length < 9223372036854775807) :
  Calls Try.prog 45 #[.map (some bm),.agg #[.int .i64 who,.int .i64 op,.int .i64 a,.int .i64 va,.bool sh]] w fun e w' => e = .returned (.tuple #[]) ∧ MpI w' bm (p ++ [⟨who,op,a,va,sh⟩]) ∧ w.grownBy w' (some bm):=by
 have hg : w.grownBy (w.alloc (.cells #[.int .i64 who,.int .i64 op,.int .i64 a,.int .i64 va,.bool sh] 39)) (some bm):=(World.grownBy_alloc w _ _)
 have HM:=ζ (h.below ((Below.refl w.heap.size w).alloc (Nat.le_refl _) (.cells #[.int .i64 who,.int .i64 op,.int .i64 a,.int .i64 va,.bool sh] 39)))
 have hA : Below w.heap.size w (w.alloc (.cells #[.int .i64 who,.int .i64 op,.int .i64 a,.int .i64 va,.bool sh] 39)):=(Below.refl _ _).alloc (Nat.le_refl _) _
 have N1 : Hid ((w.alloc (.cells #[.int .i64 who,.int .i64 op,.int .i64 a,.int .i64 va,.bool sh] 39)).heap[w.heap.size]? = some (.cells #[.int .i64 who,.int .i64 op,.int .i64 a,.int .i64 va,.bool sh] 39 (0,0))):=heap_alloc_new w _
 have NB:=ζ hA
 clear hA
 go_enter Try.func45,Try.ntmps45
 refine wp_seq_k fun K hK => ?_
 have HK:=ζ hK
 clear hK
 go_wp2
 refine HK.out _ _ ?_
 clear HK K
 generalize w.alloc _ = X at *
 obtain ⟨z0,z1,z2,z3,z4⟩:=cellsY5 N1.out
 obtain ⟨n,D,hn,hown,hD⟩:=HM.out
 have HKa:=ζ (Maps.keyOf_int_mk Try.underlying3 (wfI ha))
 by_cases h8 : op = 8
 ·have k8 : (op == 8) = true:=by simp [h8]
  have HF : Hid (∀ w',w'.ownsMap Try.prog 3 (plainElem Try.prog 3) bm (n + 1) (D.put (.int .i64 a) (.lit (.int .i64 who))) → X.grownBy w' (some bm) → MpI w' bm (p ++ [⟨who,op,a,va,sh⟩]) ∧ w.grownBy w' (some bm)):=fun w' h1 h2 => by
   refine ⟨⟨n + 1,_,by simp;omega,h1,fun k hk => ?_⟩,hg.trans h2⟩
   rw [Tr.hdC_snoc];unfold Tr.hdS
   by_cases e : k = a
   ·subst e
    rw [if_pos ⟨h8,rfl⟩];refine ⟨Maps.has_put_same hown.isMap (isKeyI hk) _,fun x hx z => ?_⟩
    cases hx
    exact Maps.atKey_put_same hown.isMap (isKeyI hk) _ _
   ·rw [if_neg (fun h => e h.2.symm),if_neg (fun h => e h.2.symm)]
    rw [Maps.has_put_other (key_ne e)];refine ⟨(hD k hk).1,fun x hx z => ?_⟩
    rw [Maps.atKey_put_other (key_ne e)];exact (hD k hk).2 x hx z
  have HO:=ζ hown
  have hm : n < maxLen:=by unfold maxLen;omega
  clear h8 hg hown hD hn hl HM h;go_wp2_with (first | (at_mapUpdate;refine wpList_mapUpdate_own _ rfl _ _ _ 83 rfl 3 3 (Maps.int_keyed Try.underlying3) Try.underlying83 _ bm n D rfl HO.out hm _ _ (.int .i64 a) rfl rfl HKa.out _ [] (plainElem_int Try.underlying3 (wfI hw)) ?_;intro w1 hown1 hgrow1) | fail)
  go_end0
  exact ⟨rfl,HF.out _ hown1 hgrow1⟩
 have k8 : (op == 8) = false:=by simp [h8]
 by_cases h9 : op = 9
 ·have k9 : (op == 9) = true:=by simp [h9]
  have HF : Hid (∀ w',w'.ownsMap Try.prog 3 (plainElem Try.prog 3) bm n (D.del (.int .i64 a)) → X.mapTurned w' bm → MpI w' bm (p ++ [⟨who,op,a,va,sh⟩]) ∧ w.grownBy w' (some bm)):=fun w' h1 h2 => by
   refine ⟨⟨n,_,by simp;omega,h1,fun k hk => ?_⟩,hg.trans h2.grown⟩
   rw [Tr.hdC_snoc];unfold Tr.hdS
   by_cases e : k = a
   ·subst e
    rw [if_neg (fun h => h8 h.1),if_pos ⟨h9,rfl⟩]
    exact ⟨Maps.has_del_same,fun x hx => by cases hx⟩
   ·rw [if_neg (fun h => e h.2.symm),if_neg (fun h => e h.2.symm)]
    rw [Maps.has_del_other (key_ne e)];refine ⟨(hD k hk).1,fun x hx z => ?_⟩
    rw [Maps.atKey_del_other (key_ne e)];exact (hD k hk).2 x hx z
  have HO:=ζ hown
  clear h8 h9 hg hown hD hn hl HM h;go_wp2_with (first | (at_delete;refine wpList_delete_own _ rfl _ _ 83 3 rfl 3 (Maps.int_keyed Try.underlying3) Try.underlying83 _ bm n D rfl HO.out _ _ rfl HKa.out ?_;intro w1 hown1 hturn1) | fail)
  go_end0
  exact ⟨rfl,HF.out _ hown1 hturn1⟩
 have k9 : (op == 9) = false:=by simp [h9]
 have HF : Hid (MpI X bm (p ++ [⟨who,op,a,va,sh⟩]) ∧ w.grownBy X (some bm)):=by
  refine ⟨⟨n,D,by simp;omega,hown,fun k hk => ?_⟩,hg⟩
  rw [Tr.hdC_snoc];unfold Tr.hdS
  rw [if_neg (fun h => h8 h.1),if_neg (fun h => h9 h.1)]
  exact hD k hk
 clear h8 h9 hg hown hD hn hl HM h
 go_wp2
 go_end0
 exact ⟨rfl,HF.out⟩
end LW
end Go.Proofs.Ytfbnakmmmphedaa
namespace Go.Proofs.Ytfbnakmmmphedaa
open Go.RowKit
namespace LW
open Mc
def rwI (n : Nat) (f : Nat → Value) : List Value:=(List.range n).map f
theorem rwI_len (n : Nat) (f : Nat → Value) : (rwI n f).length = n:=by simp [rwI]
theorem rwI_get (n : Nat) (f : Nat → Value) (c : Nat) (h : c < n) : (rwI n f)[c]? = some (f c):=by
 rw [rwI,List.getElem?_map,List.getElem?_range h]
 rfl
theorem rwI_set (n : Nat) (f f' : Nat → Value) (c : Nat) (v : Value) (h1 : f' c = v) (h2 : ∀ j,j ≠ c → f' j = f j) : (rwI n f).set c v = rwI n f':=by
 apply List.ext_getElem?
 intro j
 rw [List.getElem?_set]
 by_cases hj : j < n
 ·rw [rwI_get n f' j hj,rwI_len]
  by_cases e : c = j
  ·subst e
   rw [if_pos rfl,if_pos hj,h1]
  ·rw [if_neg e,rwI_get n f j hj,h2 j (fun h => e h.symm)]
 ·rw [List.getElem?_eq_none (by rw [rwI_len];omega),List.getElem?_eq_none (by rw [rwI_len];omega)]
  split
  ·rw [rwI_len,if_neg (by omega)]
  ·rfl
theorem rwI_congr (n : Nat) (f f' : Nat → Value) (h : ∀ j,j < n → f j = f' j) : rwI n f = rwI n f':=by
 unfold rwI
 exact List.map_congr_left fun j hj => h j (List.mem_range.1 hj)
def inV (p : List Ev) (c : Nat) : Value:=.int .i64 ((Tr.snC p (c : Int) : Int) - (Tr.tkC p (c : Int) : Int))
def clV (p : List Ev) (c : Nat) : Value:=.bool (Tr.clC p (c : Int))
structure NtM (B : Nat) (W : World) (g bm : Nat) (v1 v2 : Value) (s : Syst) (pa : Option Addr) (pc : Nat) (ra : Option Addr) (rc : Nat) (p q : List Ev) : Prop where
 blk : W.heap[g]? = some (.cells #[.slice pa s.progs.length pc,.slice ra s.rooms.length rc,.int .i64 s.groups,.int .i64 s.locks,.int .i64 s.cells,.int .i64 (Tr.rnC p : Int),v1,v2,.map (some bm)] 85 (0,0))
 hg : B ≤ g
 ins : W.ownsRow B 3 1 v1 s.rooms.length (rwI s.rooms.length (inV p))
 cls : W.ownsRow B 4 1 v2 s.rooms.length (rwI s.rooms.length (clV p))
 mp : MpI W bm q
 hm : B ≤ bm
theorem NtM.below {B g bm : Nat} {v1 v2 : Value} {s : Syst} {pa : Option Addr} {pc : Nat} {ra : Option Addr} {rc : Nat} {p : List Ev} {q : List Ev} {w w' : World} (h : NtM B w g bm v1 v2 s pa pc ra rc p q) (hb : Below w.heap.size w w') : NtM B w' g bm v1 v2 s pa pc ra rc p q:=⟨blk_keep h.blk hb,h.hg,own_belowI h.ins hb,own_belowI h.cls hb,h.mp.below hb,h.hm⟩
theorem own_rw {w : World} {B n : Nat} {t : TypeId} {v : Value} {f : Nat → Value} (h : w.ownsRow B t 1 v n (rwI n f)) (c : Nat) (hc : c < n) : ∃ b cap,v = .slice (some ⟨b,0,none⟩) n cap ∧ B ≤ b ∧ (∃ cur,w.heap[b]? = some (.cells cur t (0,0))) ∧ n ≤ cap ∧ w.cell? ⟨b,c,none⟩ = some (f c):=by
 obtain ⟨b,cap,cur,e,hB,hh⟩:=own_at h (by omega)
 refine ⟨b,cap,e,hB,⟨cur,hh⟩,?_,own_rdA h e (by omega) c _ (rwI_get n f c hc)⟩
 rcases h.2 with ⟨e2,h0⟩ | ⟨g,cap',cur',e2,_,_,hn,_⟩
 ·omega
 ·rw [e] at e2
  injection e2 with _ _ e3
  omega
theorem cellsY9 {w : World} {b : Nat} {t : TypeId} {x0 x1 x2 x3 x4 x5 x6 x7 x8 : Value} (h : w.heap[b]? = some (.cells #[x0,x1,x2,x3,x4,x5,x6,x7,x8] t (0,0))) : w.cell? ⟨b,0,none⟩ = some x0 ∧ w.cell? ⟨b,1,none⟩ = some x1 ∧ w.cell? ⟨b,2,none⟩ = some x2 ∧ w.cell? ⟨b,3,none⟩ = some x3 ∧ w.cell? ⟨b,4,none⟩ = some x4 ∧ w.cell? ⟨b,5,none⟩ = some x5 ∧ w.cell? ⟨b,6,none⟩ = some x6 ∧ w.cell? ⟨b,7,none⟩ = some x7 ∧ w.cell? ⟨b,8,none⟩ = some x8:=by
 simp [World.cell?,h]
theorem sub_gt (a b : Nat) : (0 : Int) < (a : Int) - (b : Int) ↔ b < a:=by omega
theorem pfits {B g bm : Nat} {v1 v2 : Value} {s : Syst} {pa : Option Addr} {pc : Nat} {ra : Option Addr} {rc : Nat} {p : List Ev} (who op a va : Int) (sh : Bool) (w : World) (h : NtM B w g bm v1 v2 s pa pc ra rc p p) (ha : i64 a) :
  Calls Try.prog 31 #[.pointer (some ⟨g,0,none⟩),.agg #[.int .i64 who,.int .i64 op,.int .i64 a,.int .i64 va,.bool sh]] w (RiP (Tr.FitE s p ⟨who,op,a,va,sh⟩) w):=by
 have HM:=ζ (h.below ((Below.refl w.heap.size w).alloc (Nat.le_refl _) (.cells #[.int .i64 who,.int .i64 op,.int .i64 a,.int .i64 va,.bool sh] 39)))
 clear h
 obtain ⟨Z,hZ⟩ : ∃ Z,Z = Tr.FitE s p ⟨who,op,a,va,sh⟩:=⟨_,rfl⟩
 have HZ : Hid (Z ↔ (0 ≤ who ∧ who < (Tr.rnC p : Int) ∧ 1 ≤ op ∧ op ≤ 16 ∧ (∀ m,Tr.mnC s op = some m → 0 ≤ a ∧ a < m) ∧ (op = 14 → va = 0 ∨ (va = Tr.rnC p ∧ Tr.rnC p < 512)) ∧ (op = 6 → sh = false → Tr.tkC p a < Tr.snC p a) ∧ (op = 6 → sh = true → Tr.clC p a = true) ∧ (op = 8 → Tr.hdC p a = none))):=by
  show _ ↔ _
  rw [hZ];exact ⟨fun h => ⟨h.w0,h.w1,h.o0,h.o1,h.a,h.st,h.tk,h.ts,h.lk⟩,fun h => ⟨⟨h.1,h.2.1,h.2.2.1,h.2.2.2.1,h.2.2.2.2.1⟩,h.2.2.2.2.2.1,h.2.2.2.2.2.2.1,h.2.2.2.2.2.2.2.1,h.2.2.2.2.2.2.2.2⟩⟩
 rw [← hZ]
 clear hZ
 have HTh : Hid (∀ W,Calls Try.prog 43 #[.agg #[.slice pa s.progs.length pc,.slice ra s.rooms.length rc,.int .i64 s.groups,.int .i64 s.locks,.int .i64 s.cells],.int .i64 op] W fun e w' => e = .returned (.tuple #[.int .i64 (thM s.rooms.length s.progs.length s.groups s.locks s.cells op).1,.bool (thM s.rooms.length s.progs.length s.groups s.locks s.cells op).2]) ∧ Below W.heap.size W w'):=fun W => pthings pa _ pc ra _ rc _ _ _ op W
 have HMn:=ζ (thM_mn s op)
 generalize (thM s.rooms.length s.progs.length s.groups s.locks s.cells op).1 = tm at *
 generalize (thM s.rooms.length s.progs.length s.groups s.locks s.cells op).2 = tb at *
 have hA : Below w.heap.size w (w.alloc (.cells #[.int .i64 who,.int .i64 op,.int .i64 a,.int .i64 va,.bool sh] 39)):=(Below.refl _ _).alloc (Nat.le_refl _) _
 have N1 : Hid ((w.alloc (.cells #[.int .i64 who,.int .i64 op,.int .i64 a,.int .i64 va,.bool sh] 39)).heap[w.heap.size]? = some (.cells #[.int .i64 who,.int .i64 op,.int .i64 a,.int .i64 va,.bool sh] 39 (0,0))):=heap_alloc_new w _
 have NB:=ζ hA
 clear hA
 go_enter Try.func31,Try.ntmps31
 refine wp_seq_k fun K hK => ?_
 have HK:=ζ hK
 clear hK
 go_wp2
 refine HK.out _ _ ?_
 clear HK K
 generalize w.alloc _ = X at *
 obtain ⟨z0,z1,z2,z3,z4⟩:=cellsY5 N1.out
 obtain ⟨x0,x1,x2,x3,x4,x5,x6,x7,x8⟩:=cellsY9 HM.out.blk
 have NBx:=NB
 clear NB
 by_cases q1 : who < 0
 ·have HNo : Hid (¬ Z):=fun hz => by have:=HZ.out.1 hz;omega
  have k1 : ¬ (0 : Int) ≤ who:=by omega
  clear HZ HMn;go_wp2;go_quiet (fail)
  go_wp2;go_ret;exact ⟨false,rfl,⟨fun h => (by cases h),fun h => absurd h HNo.out⟩,below_drewN NBx.out _⟩
 by_cases q2 : (Tr.rnC p : Int) ≤ who
 ·have HNo : Hid (¬ Z):=fun hz => by have:=HZ.out.1 hz;omega
  clear HZ HMn;go_wp2;go_quiet (fail)
  go_wp2;go_ret;exact ⟨false,rfl,⟨fun h => (by cases h),fun h => absurd h HNo.out⟩,below_drewN NBx.out _⟩
 by_cases q3 : op < 1
 ·have HNo : Hid (¬ Z):=fun hz => by have:=HZ.out.1 hz;omega
  clear HZ HMn;go_wp2;go_quiet (fail)
  go_wp2;go_ret;exact ⟨false,rfl,⟨fun h => (by cases h),fun h => absurd h HNo.out⟩,below_drewN NBx.out _⟩
 by_cases q4 : 16 < op
 ·have HNo : Hid (¬ Z):=fun hz => by have:=HZ.out.1 hz;omega
  clear HZ HMn;go_wp2;go_quiet (fail)
  go_wp2;go_ret;exact ⟨false,rfl,⟨fun h => (by cases h),fun h => absurd h HNo.out⟩,below_drewN NBx.out _⟩
 refine wp_seq_k fun K hK => ?_
 have HK:=ζ hK
 clear hK
 go_wp2
 go_quiet (fail)
 go_wp2
 refine HK.out _ _ ?_
 clear HK K
 have HX1 : Hid (Below X.heap.size X (X.drewN nq)):=below_drewN (Below.refl _ _) _
 generalize X.drewN nq = X1 at *
 have HM1:=ζ (HM.out.below HX1.out)
 have N2:=ζ (blk_keep N1.out HX1.out)
 have NB1 : Hid (Below w.heap.size w X1):=NBx.out.trans (HX1.out.mono NBx.out.size)
 clear HX1 NBx N1 HM z0 z1 z2 z3 z4 x0 x1 x2 x3 x4 x5 x6 x7 x8
 have HQ : Hid (0 ≤ who ∧ who < (Tr.rnC p : Int) ∧ 1 ≤ op ∧ op ≤ 16):=⟨by omega,by omega,by omega,by omega⟩
 clear q1 q2 q3 q4
 have HX : Hid (Below X1.heap.size X1 X1):=Below.refl _ _
 refine wp_seq_k fun K hK => ?_
 have HK:=ζ hK
 clear hK
 refine wp_seq ?_
 refine wp_region_noPanic ?_
 refine RG.wp_region_L (fun Z => True) (fun Z => Below X1.heap.size X1 Z) [] (by kernel_rfl) ?_
 refine RG.wpL_any fun Ya hY => ?_
 have HTa : Hid (Below X1.heap.size X1 Ya):=by rw [hY];exact below_drewN HX.out 1
 clear hY
 refine RG.wpL_take (fuel:=6) (a':=?Aa) [0,1,2,3,4,5] (by kernel_rfl) (by kernel_rfl) (fun _ _ _ _ _ h => h) HTa.out (fun _ => trivial) ?ra ?_
 case ra =>
  iterate 3
   refine RG.rW ?_ (fun Z hT => ?_) ?_
   rotate_left
   ·go_simp
    rfl
   simp only [Act.put,lA,lB,lC,lD,lE,lF]
  refine RG.rW (.agg #[.slice pa s.progs.length pc,.slice ra s.rooms.length rc,.int .i64 s.groups,.int .i64 s.locks,.int .i64 s.cells]) (fun Z hT => ?_) ?_
  ·obtain ⟨x0,x1,x2,x3,x4,x5,x6,x7,x8⟩:=cellsY9 (HM1.out.below hT).blk;obtain ⟨z0,z1,z2,z3,z4⟩:=cellsY5 (blk_keep N2.out hT)
   go_simp
  simp only [Act.put,lA,lB,lC,lD,lE,lF]
  refine RG.rW ?_ (fun Z hT => ?_) ?_
  rotate_left
  ·go_simp
   rfl
  simp only [Act.put,lA,lB,lC,lD,lE,lF]
  refine RG.rW (.int .i64 op) (fun Z hT => ?_) ?_
  ·obtain ⟨x0,x1,x2,x3,x4,x5,x6,x7,x8⟩:=cellsY9 (HM1.out.below hT).blk;obtain ⟨z0,z1,z2,z3,z4⟩:=cellsY5 (blk_keep N2.out hT)
   go_simp
  simp only [Act.put,lA,lB,lC,lD,lE,lF]
  exact RG.RunsIf.nil
 refine RG.wpL_step (i:=6) (by kernel_rfl) (by rfl) (by rfl) (fun KX hK => ?_)
 have HK:=ζ hK
 clear hK
 go_simp
 refine (HTh.out Ya).mono ?_
 rintro e_W1 W1 ⟨rfl,hb⟩
 have HT1 : Hid (Below X1.heap.size X1 W1):=HTa.out.trans (hb.mono HTa.out.size)
 refine HK.out _ _ HT1.out (fun _ => trivial) ?_
 clear HK KX hb
 try simp only [Act.put,lA,lB,lC,lD,lE,lF]
 refine RG.wpL_take (fuel:=0) (a':=?Aax) [7,8,9,10,11] (by kernel_rfl) (by kernel_rfl) (fun _ _ _ _ _ h => h) HT1.out (fun _ => trivial) ?rax ?_
 case rax =>
  iterate 5
   refine RG.rW ?_ (fun Z hT => ?_) ?_
   rotate_left
   ·go_simp
    rfl
   simp only [Act.put,lA,lB,lC,lD,lE,lF]
  exact RG.RunsIf.nil
 refine RG.wpL_done (by kernel_rfl) ?_ _
 refine NoPanic.normal ?_
 have HM2:=ζ (HM1.out.below HT1.out)
 have N3:=ζ (blk_keep N2.out HT1.out)
 have NBx : Hid (Below w.heap.size w W1):=NB1.out.trans (HT1.out.mono NB1.out.size)
 clear HTa HT1 HX NB1 HM1 N2 HTh Ya
 obtain ⟨z0,z1,z2,z3,z4⟩:=cellsY5 N3.out
 obtain ⟨x0,x1,x2,x3,x4,x5,x6,x7,x8⟩:=cellsY9 HM2.out.blk
 by_cases h14 : op = 14
 ·obtain ⟨rfl,rfl⟩ : tb = true ∧ tm = (s.progs.length : Int):=by
   have e:=HMn.out
   rw [h14] at e;cases tb with
   | false => cases e
   | true => injection e with e;exact ⟨rfl,e.symm⟩
  have HMm : Hid (Tr.mnC s op = some ((s.progs.length : Int))):=HMn.out
  clear HMn;have k14 : (op == 14) = true:=by simp [h14]
  by_cases a1 : a < 0
  ·have HNo : Hid (¬ Z):=fun hz => by have:=(HZ.out.1 hz).2.2.2.2.1 _ HMm.out;omega
   clear HZ HMm;go_wp2;go_ret;exact ⟨false,rfl,⟨fun h => (by cases h),fun h => absurd h HNo.out⟩,NBx.out⟩
  by_cases a2 : (s.progs.length : Int) ≤ a
  ·have HNo : Hid (¬ Z):=fun hz => by have:=(HZ.out.1 hz).2.2.2.2.1 _ HMm.out;omega
   clear HZ HMm;go_wp2;go_ret;exact ⟨false,rfl,⟨fun h => (by cases h),fun h => absurd h HNo.out⟩,NBx.out⟩
  have HAm : Hid (∀ m,Tr.mnC s op = some m → 0 ≤ a ∧ a < m):=fun m hm => by
   rw [HMm.out] at hm;injection hm with hm
   omega
  clear HMm;have H14:=ζ h14
  clear h14;by_cases b1 : va = 0
  ·have HYes : Hid Z:=HZ.out.2 ⟨HQ.out.1,HQ.out.2.1,HQ.out.2.2.1,HQ.out.2.2.2,HAm.out,fun _ => .inl b1,fun h => by have:=H14.out;omega,fun h => by have:=H14.out;omega,fun h => by have:=H14.out;omega⟩
   have kb : (va == 0) = true:=by simp [b1]
   clear b1 HZ HAm HQ H14;go_wp2;refine HK.out _ _ ?_;clear HK K;go_wp2;go_quiet (fail)
   go_wp2;go_ret;exact ⟨true,rfl,⟨fun _ => HYes.out,fun _ => rfl⟩,below_drewN NBx.out _⟩
  have kb : (va == 0) = false:=by simp [b1]
  by_cases b2 : va = (Tr.rnC p : Int)
  ·have kb2 : (va == (Tr.rnC p : Int)) = true:=by simp [b2]
   by_cases b3 : Tr.rnC p < 512
   ·have HYes : Hid Z:=HZ.out.2 ⟨HQ.out.1,HQ.out.2.1,HQ.out.2.2.1,HQ.out.2.2.2,HAm.out,fun _ => .inr ⟨b2,b3⟩,fun h => by have:=H14.out;omega,fun h => by have:=H14.out;omega,fun h => by have:=H14.out;omega⟩
    have kb3 : (Tr.rnC p : Int) < 512:=by omega
    clear b1 b2 b3 HZ HAm HQ H14;generalize (Tr.rnC p : Int) = rn at *;go_wp2;refine HK.out _ _ ?_;clear HK K;go_wp2;go_quiet (fail)
    go_wp2;go_ret;exact ⟨true,rfl,⟨fun _ => HYes.out,fun _ => rfl⟩,below_drewN NBx.out _⟩
   ·have HNo : Hid (¬ Z):=fun hz => by
     rcases (HZ.out.1 hz).2.2.2.2.2.1 H14.out with h | h
     ·exact b1 h
     ·exact b3 h.2
    have kb3 : ((Tr.rnC p : Int) < 512) = False:=by simp;omega
    clear b1 b2 b3 HZ HAm HQ H14;generalize (Tr.rnC p : Int) = rn at *;go_wp2;refine HK.out _ _ ?_;clear HK K;go_wp2;go_quiet (fail)
    go_wp2;go_ret;exact ⟨false,rfl,⟨fun h => (by cases h),fun h => absurd h HNo.out⟩,below_drewN NBx.out _⟩
  have HNo : Hid (¬ Z):=fun hz => by
   rcases (HZ.out.1 hz).2.2.2.2.2.1 H14.out with h | h
   ·exact b1 h
   ·exact b2 h.1
  have kb2 : (va == (Tr.rnC p : Int)) = false:=by simp [b2]
  clear b1 b2 HZ HAm HQ H14;generalize (Tr.rnC p : Int) = rn at *;go_wp2;refine HK.out _ _ ?_;clear HK K;go_wp2;go_quiet (fail)
  go_wp2;go_ret;exact ⟨false,rfl,⟨fun h => (by cases h),fun h => absurd h HNo.out⟩,below_drewN NBx.out _⟩
 have k14 : (op == 14) = false:=by simp [h14]
 by_cases h6 : op = 6
 ·obtain ⟨rfl,rfl⟩ : tb = true ∧ tm = (s.rooms.length : Int):=by
   have e:=HMn.out
   rw [h6] at e;cases tb with
   | false => cases e
   | true => injection e with e;exact ⟨rfl,e.symm⟩
  have HMm : Hid (Tr.mnC s op = some ((s.rooms.length : Int))):=HMn.out
  clear HMn;have k6 : (op == 6) = true:=by simp [h6]
  by_cases a1 : a < 0
  ·have HNo : Hid (¬ Z):=fun hz => by have:=(HZ.out.1 hz).2.2.2.2.1 _ HMm.out;omega
   clear HZ HMm;go_wp2;go_ret;exact ⟨false,rfl,⟨fun h => (by cases h),fun h => absurd h HNo.out⟩,NBx.out⟩
  by_cases a2 : (s.rooms.length : Int) ≤ a
  ·have HNo : Hid (¬ Z):=fun hz => by have:=(HZ.out.1 hz).2.2.2.2.1 _ HMm.out;omega
   clear HZ HMm;go_wp2;go_ret;exact ⟨false,rfl,⟨fun h => (by cases h),fun h => absurd h HNo.out⟩,NBx.out⟩
  have HAm : Hid (∀ m,Tr.mnC s op = some m → 0 ≤ a ∧ a < m):=fun m hm => by
   rw [HMm.out] at hm;injection hm with hm
   omega
  clear HMm;have H6:=ζ h6
  clear h6 h14;obtain ⟨c,rfl⟩ : ∃ c : Nat,a = (c : Int):=⟨a.toNat,by omega⟩
  have hcl : c < s.rooms.length:=by omega
  have c0 : (0 : Int) ≤ (c : Int):=by omega
  have c1 : (c : Int) < (s.rooms.length : Int):=by omega
  cases sh with
  | true =>
   obtain ⟨b,cap,rfl,_,_,_,y⟩:=own_rw HM2.out.cls c hcl
   unfold clV at y;have HCl : Hid (Z ↔ Tr.clC p (c : Int) = true):=⟨fun hz => (HZ.out.1 hz).2.2.2.2.2.2.2.1 H6.out rfl,fun hc => HZ.out.2 ⟨HQ.out.1,HQ.out.2.1,HQ.out.2.2.1,HQ.out.2.2.2,HAm.out,fun h => by have:=H6.out;omega,fun _ h => (by cases h),fun _ _ => hc,fun h => by have:=H6.out;omega⟩⟩
   clear HZ HAm HQ H6 HM2 a1 a2;generalize Tr.clC p (c : Int) = cl at *;generalize s.rooms.length = r at *;go_wp2;refine HK.out _ _ ?_;clear HK K;go_wp2;go_quiet (fail)
   go_wp2;go_ret;exact ⟨cl,rfl,HCl.out.symm,below_drewN NBx.out _⟩
  | false =>
   obtain ⟨b,cap,rfl,_,_,_,y⟩:=own_rw HM2.out.ins c hcl
   unfold inV at y;have HCl : Hid (Z ↔ (0 : Int) < (Tr.snC p (c : Int) : Int) - (Tr.tkC p (c : Int) : Int)):=by
    show _ ↔ _
    rw [sub_gt];exact ⟨fun hz => (HZ.out.1 hz).2.2.2.2.2.2.1 H6.out rfl,fun hc => HZ.out.2 ⟨HQ.out.1,HQ.out.2.1,HQ.out.2.2.1,HQ.out.2.2.2,HAm.out,fun h => by have:=H6.out;omega,fun _ _ => hc,fun _ h => (by cases h),fun h => by have:=H6.out;omega⟩⟩
   clear HZ HAm HQ H6 HM2 a1 a2;generalize (Tr.snC p (c : Int) : Int) - (Tr.tkC p (c : Int) : Int) = d at *;generalize s.rooms.length = r at *;by_cases hd : 0 < d
   ·have HYes : Hid Z:=HCl.out.2 hd
    go_wp2;refine HK.out _ _ ?_;clear HK K;go_wp2;go_quiet (fail)
    go_wp2;go_ret;exact ⟨true,rfl,⟨fun _ => HYes.out,fun _ => rfl⟩,below_drewN NBx.out _⟩
   ·have HNo : Hid (¬ Z):=fun hz => hd (HCl.out.1 hz)
    have hdF : (0 < d) = False:=eq_false hd
    clear hd;go_wp2;refine HK.out _ _ ?_;clear HK K;go_wp2;go_quiet (fail)
    go_wp2;go_ret;exact ⟨false,rfl,⟨fun h => (by cases h),fun h => absurd h HNo.out⟩,below_drewN NBx.out _⟩
 have k6 : (op == 6) = false:=by simp [h6]
 by_cases h8 : op = 8
 ·obtain ⟨rfl,rfl⟩ : tb = true ∧ tm = s.locks:=by
   have e:=HMn.out
   rw [h8] at e;cases tb with
   | false => cases e
   | true => injection e with e;exact ⟨rfl,e.symm⟩
  have HMm : Hid (Tr.mnC s op = some (s.locks)):=HMn.out
  clear HMn;have k8 : (op == 8) = true:=by simp [h8]
  by_cases a1 : a < 0
  ·have HNo : Hid (¬ Z):=fun hz => by have:=(HZ.out.1 hz).2.2.2.2.1 _ HMm.out;omega
   clear HZ HMm;go_wp2;go_ret;exact ⟨false,rfl,⟨fun h => (by cases h),fun h => absurd h HNo.out⟩,NBx.out⟩
  by_cases a2 : s.locks ≤ a
  ·have HNo : Hid (¬ Z):=fun hz => by have:=(HZ.out.1 hz).2.2.2.2.1 _ HMm.out;omega
   clear HZ HMm;go_wp2;go_ret;exact ⟨false,rfl,⟨fun h => (by cases h),fun h => absurd h HNo.out⟩,NBx.out⟩
  have HAm : Hid (∀ m,Tr.mnC s op = some m → 0 ≤ a ∧ a < m):=fun m hm => by
   rw [HMm.out] at hm;injection hm with hm
   omega
  clear HMm;have H8:=ζ h8
  clear h8 h6 h14;have HCl : Hid (Z ↔ (Tr.hdC p a).isSome = false):=by
   show _ ↔ _
   rw [Option.isSome_eq_false_iff,Option.isNone_iff_eq_none];exact ⟨fun hz => (HZ.out.1 hz).2.2.2.2.2.2.2.2 H8.out,fun hc => HZ.out.2 ⟨HQ.out.1,HQ.out.2.1,HQ.out.2.2.1,HQ.out.2.2.2,HAm.out,fun h => by have:=H8.out;omega,fun h => by have:=H8.out;omega,fun h => by have:=H8.out;omega,fun _ => hc⟩⟩
  have HAn : Hid (∀ W,MpI W bm p → Calls Try.prog 44 #[.map (some bm),.int .i64 a] W fun e w' => e = .returned (.bool (Tr.hdC p a).isSome) ∧ Below W.heap.size W w'):=fun W hW => pany bm p a W hW ha
  clear HZ HAm HQ H8;generalize (Tr.hdC p a).isSome = hd at *;have HX : Hid (Below W1.heap.size W1 W1):=Below.refl _ _
  go_wp2;refine HK.out _ _ ?_;clear HK K;go_wp2;refine wp_region_noPanic ?_
  refine RG.wp_region_L (fun Z => True) (fun Z => Below W1.heap.size W1 Z) [] (by kernel_rfl) ?_
  refine RG.wpL_any fun Yb hY => ?_
  have HTb : Hid (Below W1.heap.size W1 Yb):=by rw [hY];exact below_drewN HX.out 1
  clear hY;refine RG.wpL_take (fuel:=3) (a':=?Ab) [0,1,2,3,4,5] (by kernel_rfl) (by kernel_rfl) (fun _ _ _ _ _ h => h) HTb.out (fun _ => trivial) ?rb ?_
  case rb =>
   iterate 3
    refine RG.rW ?_ (fun Z hT => ?_) ?_
    rotate_left
    ·go_simp
     rfl
    simp only [Act.put,lA,lB,lC,lD,lE,lF]
   refine RG.rW (.map (some bm)) (fun Z hT => ?_) ?_
   ·obtain ⟨x0,x1,x2,x3,x4,x5,x6,x7,x8⟩:=cellsY9 (HM2.out.below hT).blk;obtain ⟨z0,z1,z2,z3,z4⟩:=cellsY5 (blk_keep N3.out hT)
    go_simp
   simp only [Act.put,lA,lB,lC,lD,lE,lF]
   refine RG.rW ?_ (fun Z hT => ?_) ?_
   rotate_left
   ·go_simp
    rfl
   simp only [Act.put,lA,lB,lC,lD,lE,lF]
   refine RG.rW (.int .i64 a) (fun Z hT => ?_) ?_
   ·obtain ⟨x0,x1,x2,x3,x4,x5,x6,x7,x8⟩:=cellsY9 (HM2.out.below hT).blk;obtain ⟨z0,z1,z2,z3,z4⟩:=cellsY5 (blk_keep N3.out hT)
    go_simp
   simp only [Act.put,lA,lB,lC,lD,lE,lF]
   exact RG.RunsIf.nil
  refine RG.wpL_step (i:=6) (by kernel_rfl) (by rfl) (by rfl) (fun KX hK => ?_)
  have HK:=ζ hK
  clear hK;go_simp;refine (HAn.out Yb (HM2.out.mp.below HTb.out)).mono ?_
  rintro e_W2 W2 ⟨rfl,hb⟩
  have HT2 : Hid (Below W1.heap.size W1 W2):=HTb.out.trans (hb.mono HTb.out.size)
  refine HK.out _ _ HT2.out (fun _ => trivial) ?_
  clear HK KX hb;try simp only [Act.put,lA,lB,lC,lD,lE,lF]
  refine RG.wpL_take (fuel:=0) (a':=?Abx) [7,8] (by kernel_rfl) (by kernel_rfl) (fun _ _ _ _ _ h => h) HT2.out (fun _ => trivial) ?rbx ?_
  case rbx =>
   iterate 2
    refine RG.rW ?_ (fun Z hT => ?_) ?_
    rotate_left
    ·go_simp
     rfl
    simp only [Act.put,lA,lB,lC,lD,lE,lF]
   exact RG.RunsIf.nil
  refine RG.wpL_done (by kernel_rfl) ?_ _
  refine NoPanic.normal ?_
  go_wp2;go_ret;exact ⟨!hd,rfl,(by rw [HCl.out];cases hd <;> simp),NBx.out.trans (HT2.out.mono NBx.out.size)⟩
 have k8 : (op == 8) = false:=by simp [h8]
 have HYs : Hid ((∀ m,Tr.mnC s op = some m → 0 ≤ a ∧ a < m) → Z):=fun hm => HZ.out.2 ⟨HQ.out.1,HQ.out.2.1,HQ.out.2.2.1,HQ.out.2.2.2,hm,fun h => absurd h h14,fun h => absurd h h6,fun h => absurd h h6,fun h => absurd h h8⟩
 clear h14 h6 h8 HQ
 cases tb with
 | false =>
  have HYes : Hid Z:=HYs.out (fun m hm => by rw [HMn.out] at hm;cases hm)
  clear HYs HMn HZ;go_wp2;refine HK.out _ _ ?_;clear HK K;go_wp2;go_ret;exact ⟨true,rfl,⟨fun _ => HYes.out,fun _ => rfl⟩,NBx.out⟩
 | true =>
  have HMm : Hid (Tr.mnC s op = some tm):=HMn.out
  clear HMn;by_cases a1 : a < 0
  ·have HNo : Hid (¬ Z):=fun hz => by have:=(HZ.out.1 hz).2.2.2.2.1 _ HMm.out;omega
   clear HZ HMm;go_wp2;go_ret;exact ⟨false,rfl,⟨fun h => (by cases h),fun h => absurd h HNo.out⟩,NBx.out⟩
  by_cases a2 : tm ≤ a
  ·have HNo : Hid (¬ Z):=fun hz => by have:=(HZ.out.1 hz).2.2.2.2.1 _ HMm.out;omega
   clear HZ HMm;go_wp2;go_ret;exact ⟨false,rfl,⟨fun h => (by cases h),fun h => absurd h HNo.out⟩,NBx.out⟩
  have HAm : Hid (∀ m,Tr.mnC s op = some m → 0 ≤ a ∧ a < m):=fun m hm => by
   rw [HMm.out] at hm;injection hm with hm
   omega
  have HYes : Hid Z:=HYs.out HAm.out
  clear HYs HMm HAm HZ;go_wp2;refine HK.out _ _ ?_;clear HK K;go_wp2;go_ret;exact ⟨true,rfl,⟨fun _ => HYes.out,fun _ => rfl⟩,NBx.out⟩
end LW
end Go.Proofs.Ytfbnakmmmphedaa
namespace Go.Proofs.Ytfbnakmmmphedaa
open Go.RowKit
namespace LW
open Mc
theorem inV_same (p : List Ev) (e : Ev) (c : Nat) (h1 : ¬ (e.op = 5 ∧ e.a = c)) (h2 : ¬ (e.op = 6 ∧ e.shut = false ∧ e.a = c)) : inV (p ++ [e]) c = inV p c:=by
 unfold inV
 rw [Tr.snC_snoc,Tr.tkC_snoc,if_neg h1,if_neg h2]
 rfl
theorem clV_same (p : List Ev) (e : Ev) (c : Nat) (h1 : ¬ (e.op = 7 ∧ e.a = c)) : clV (p ++ [e]) c = clV p c:=by
 unfold clV
 rw [Tr.clC_snoc]
 simp [h1]
theorem rnC_same (p : List Ev) (e : Ev) (h1 : ¬ (e.op = 14 ∧ e.value ≠ 0)) : Tr.rnC (p ++ [e]) = Tr.rnC p:=by
 rw [Tr.rnC_snoc,if_neg h1]
 rfl
theorem NtM.idle {B g bm : Nat} {v1 v2 : Value} {s : Syst} {pa : Option Addr} {pc : Nat} {ra : Option Addr} {rc : Nat} {p : List Ev} {q : List Ev} {W : World} (e : Ev) (h : NtM B W g bm v1 v2 s pa pc ra rc p q) (h5 : e.op ≠ 5) (h6 : ¬ (e.op = 6 ∧ e.shut = false)) (h7 : e.op ≠ 7) (h14 : ¬ (e.op = 14 ∧ e.value ≠ 0)) : NtM B W g bm v1 v2 s pa pc ra rc (p ++ [e]) q:=by
 refine ⟨?_,h.hg,?_,?_,h.mp,h.hm⟩
 ·rw [rnC_same p e h14];exact h.blk
 ·rw [rwI_congr _ (inV (p ++ [e])) (inV p) (fun c _ => inV_same p e c (fun h => h5 h.1) (fun h => h6 ⟨h.1,h.2.1⟩))];exact h.ins
 ·rw [rwI_congr _ (clV (p ++ [e])) (clV p) (fun c _ => clV_same p e c (fun h => h7 h.1))];exact h.cls
theorem NtM.setIn {B g bm : Nat} {v1 v2 : Value} {s : Syst} {pa : Option Addr} {pc : Nat} {ra : Option Addr} {rc : Nat} {p : List Ev} {q : List Ev} {W : World} (e : Ev) (h : NtM B W g bm v1 v2 s pa pc ra rc p q) (c b cap : Nat) (hv : v1 = .slice (some ⟨b,0,none⟩) s.rooms.length cap) (hc : c < s.rooms.length) (x : Int) (hx : inV (p ++ [e]) c = .int .i64 x) (ho : e.op = 5 ∨ (e.op = 6 ∧ e.shut = false)) (ha : e.a = c) : NtM B (W.setCell ⟨b,c,none⟩ (.int .i64 x)) g bm v1 v2 s pa pc ra rc (p ++ [e]) q:=by
 have h0:=h.ins
 rw [hv] at h0
 obtain ⟨_,cur,hh⟩:=row_is h0 rfl (by omega)
 refine ⟨?_,h.hg,?_,?_,?_,h.hm⟩
 ·rw [rnC_same p e (by omega),Below.heap_setCell _ _ _ g ?_]
  ·exact h.blk
  ·rintro rfl
   have:=h.blk.symm.trans hh
   simp at this
 ·have h1:=(h0.stored c (.int .i64 x)).1
  rw [rwI_set _ (inV p) (inV (p ++ [e])) c _ hx (fun j hj => inV_same p e j (fun h => hj (by omega)) (fun h => hj (by omega)))] at h1
  rw [hv];exact h1
 ·rw [rwI_congr _ (clV (p ++ [e])) (clV p) (fun j _ => clV_same p e j (fun h => by omega))]
  exact own_setN h.cls hh (by decide)
 ·refine h.mp.keep (Below.heap_setCell _ _ _ _ ?_)
  exact h.mp.ne hh
theorem NtM.setCl {B g bm : Nat} {v1 v2 : Value} {s : Syst} {pa : Option Addr} {pc : Nat} {ra : Option Addr} {rc : Nat} {p : List Ev} {q : List Ev} {W : World} (e : Ev) (h : NtM B W g bm v1 v2 s pa pc ra rc p q) (c b cap : Nat) (hv : v2 = .slice (some ⟨b,0,none⟩) s.rooms.length cap) (hc : c < s.rooms.length) (ho : e.op = 7) (ha : e.a = c) : NtM B (W.setCell ⟨b,c,none⟩ (.bool true)) g bm v1 v2 s pa pc ra rc (p ++ [e]) q:=by
 have h0:=h.cls
 rw [hv] at h0
 obtain ⟨_,cur,hh⟩:=row_is h0 rfl (by omega)
 refine ⟨?_,h.hg,?_,?_,?_,h.hm⟩
 ·rw [rnC_same p e (by omega),Below.heap_setCell _ _ _ g ?_]
  ·exact h.blk
  ·rintro rfl
   have:=h.blk.symm.trans hh
   simp at this
 ·rw [rwI_congr _ (inV (p ++ [e])) (inV p) (fun j _ => inV_same p e j (fun h => by omega) (fun h => by omega))]
  exact own_setN h.ins hh (by decide)
 ·have h1:=(h0.stored c (.bool true)).1
  rw [rwI_set _ (clV p) (clV (p ++ [e])) c _ (by unfold clV;rw [Tr.clC_snoc];simp [ho,ha]) (fun j hj => clV_same p e j (fun h => hj (by omega)))] at h1
  rw [hv];exact h1
 ·refine h.mp.keep (Below.heap_setCell _ _ _ _ ?_)
  exact h.mp.ne hh
theorem NtM.setRn {B g bm : Nat} {v1 v2 : Value} {s : Syst} {pa : Option Addr} {pc : Nat} {ra : Option Addr} {rc : Nat} {p : List Ev} {q : List Ev} {W : World} (e : Ev) (h : NtM B W g bm v1 v2 s pa pc ra rc p q) (ho : e.op = 14) (hv : e.value ≠ 0) : NtM B (W.setCell ⟨g,5,none⟩ (.int .i64 ((Tr.rnC p : Int) + 1))) g bm v1 v2 s pa pc ra rc (p ++ [e]) q:=by
 refine ⟨?_,h.hg,?_,?_,?_,h.hm⟩
 ·have h1:=heap_setCell_same W g 5 _ _ (.int .i64 ((Tr.rnC p : Int) + 1)) h.blk
  rw [h1,Tr.rnC_snoc,if_pos ⟨ho,hv⟩];simp
 ·rw [rwI_congr _ (inV (p ++ [e])) (inV p) (fun j _ => inV_same p e j (fun h => by omega) (fun h => by omega))]
  exact own_setN h.ins h.blk (by decide)
 ·rw [rwI_congr _ (clV (p ++ [e])) (clV p) (fun j _ => clV_same p e j (fun h => by omega))]
  exact own_setN h.cls h.blk (by decide)
 ·exact h.mp.keep (Below.heap_setCell _ _ _ _ (h.mp.ne h.blk))
theorem NtM.grown {B g bm : Nat} {v1 v2 : Value} {s : Syst} {pa : Option Addr} {pc : Nat} {ra : Option Addr} {rc : Nat} {p : List Ev} {q : List Ev} {w w' : World} (h : NtM B w g bm v1 v2 s pa pc ra rc p p) (hg : w.grownBy w' (some bm)) (hm : MpI w' bm q) : NtM B w' g bm v1 v2 s pa pc ra rc p q:=by
 refine ⟨?_,h.hg,own_grownT h.ins hg ?_,own_grownT h.cls hg ?_,hm,h.hm⟩
 ·rw [hg.block g (blk_lt h.blk) (fun e => h.mp.ne h.blk (by injection e with e;exact e.symm))]
  exact h.blk
 ·intro k hk e
  injection e with e
  subst e;rcases h.ins.2 with ⟨e1,_⟩ | ⟨b,cap,cur,e1,_,hh,_⟩
  ·rw [e1] at hk;cases hk
  ·rw [e1] at hk
   injection hk with hk
   exact h.mp.ne hh hk.symm
 ·intro k hk e
  injection e with e
  subst e;rcases h.cls.2 with ⟨e1,_⟩ | ⟨b,cap,cur,e1,_,hh,_⟩
  ·rw [e1] at hk;cases hk
  ·rw [e1] at hk
   injection hk with hk
   exact h.mp.ne hh hk.symm
theorem below_grown {B : Nat} {w w' : World} {row : Nat} (hg : w.grownBy w' (some row)) (hB : B ≤ row) (hs : B ≤ w.heap.size) : Below B w w':=⟨hg.os,hg.tape,hg.output,hg.size,fun k hk => hg.block k (by omega) (fun e => by injection e with e;omega)⟩
end LW
end Go.Proofs.Ytfbnakmmmphedaa
namespace Go.Proofs.Ytfbnakmmmphedaa
open Go.RowKit
namespace LW
open Mc
theorem pntake {B g bm : Nat} {v1 v2 : Value} {s : Syst} {pa : Option Addr} {pc : Nat} {ra : Option Addr} {rc : Nat} {p : List Ev} (who op a va : Int) (sh : Bool) (w : World) (h : NtM B w g bm v1 v2 s pa pc ra rc p p) (hf : Tr.FitE s p ⟨who,op,a,va,sh⟩) (hw : i64 who) (ha : i64 a) (hl : p.length ≤ 40000) :
  Calls Try.prog 32 #[.pointer (some ⟨g,0,none⟩),.agg #[.int .i64 who,.int .i64 op,.int .i64 a,.int .i64 va,.bool sh]] w fun e w' => e = .returned (.tuple #[]) ∧ NtM B w' g bm v1 v2 s pa pc ra rc (p ++ [⟨who,op,a,va,sh⟩]) (p ++ [⟨who,op,a,va,sh⟩]) ∧ Below B w w':=by
 have HM:=ζ (h.below ((Below.refl w.heap.size w).alloc (Nat.le_refl _) (.cells #[.int .i64 who,.int .i64 op,.int .i64 a,.int .i64 va,.bool sh] 39)))
 have hBw : B ≤ w.heap.size:=Nat.le_of_lt (Nat.lt_of_le_of_lt h.hg (blk_lt h.blk))
 have HTk : Hid (∀ W,MpI W bm p → Calls Try.prog 45 #[.map (some bm),.agg #[.int .i64 who,.int .i64 op,.int .i64 a,.int .i64 va,.bool sh]] W fun e w' => e = .returned (.tuple #[]) ∧ MpI w' bm (p ++ [⟨who,op,a,va,sh⟩]) ∧ W.grownBy w' (some bm)):=fun W hW => phtake bm p who op a va sh W hW hw ha (by omega)
 have hfa : ∀ m,Tr.mnC s op = some m → 0 ≤ a ∧ a < m:=hf.a
 have hst : op = 14 → va = 0 ∨ (va = (Tr.rnC p : Int) ∧ Tr.rnC p < 512):=hf.st
 clear h hw ha hf
 have hA : Below w.heap.size w (w.alloc (.cells #[.int .i64 who,.int .i64 op,.int .i64 a,.int .i64 va,.bool sh] 39)):=(Below.refl _ _).alloc (Nat.le_refl _) _
 have N1 : Hid ((w.alloc (.cells #[.int .i64 who,.int .i64 op,.int .i64 a,.int .i64 va,.bool sh] 39)).heap[w.heap.size]? = some (.cells #[.int .i64 who,.int .i64 op,.int .i64 a,.int .i64 va,.bool sh] 39 (0,0))):=heap_alloc_new w _
 have NB:=ζ hA
 clear hA
 go_enter Try.func32,Try.ntmps32
 refine wp_seq_k fun K hK => ?_
 have HK:=ζ hK
 clear hK
 go_wp2
 refine HK.out _ _ ?_
 clear HK K
 generalize w.alloc _ = X at *
 refine wp_seq_k fun K hK => ?_
 have HK:=ζ hK
 clear hK
 refine wp_region_noPanic ?_
 refine RG.wp_region_L (fun Z => Below X.heap.size X Z) (fun Z => True) [5] (by kernel_rfl) ?_
 refine RG.wpL_any fun Yz56 hY => ?_
 have HBz56 : Hid (Below X.heap.size X Yz56):=by rw [hY];exact below_drewN (Below.refl _ _) 1
 clear hY
 refine RG.wpL_takeS (fuel:=1) (a':=?Az56) [0,1,2,3,4] (by kernel_rfl) (by kernel_rfl) (fun _ _ _ _ _ h => h) trivial (HBz56.out) ?rz56 ?_
 case rz56 =>
  iterate 3
   refine RG.rS ?_ (fun Z hT hS => ?_) ?_
   rotate_left
   ·go_simp
    rfl
   simp only [Act.put,lA,lB,lC,lD,lE,lF]
  refine RG.rS (.map (some bm)) (fun Z hT hS => ?_) ?_
  ·obtain ⟨x0,x1,x2,x3,x4,x5,x6,x7,x8⟩:=cellsY9 (HM.out.below hS).blk;obtain ⟨z0,z1,z2,z3,z4⟩:=cellsY5 (blk_keep N1.out hS)
   go_simp
  simp only [Act.put,lA,lB,lC,lD,lE,lF]
  refine RG.rS (.agg #[.int .i64 who,.int .i64 op,.int .i64 a,.int .i64 va,.bool sh]) (fun Z hT hS => ?_) ?_
  ·obtain ⟨x0,x1,x2,x3,x4,x5,x6,x7,x8⟩:=cellsY9 (HM.out.below hS).blk;obtain ⟨z0,z1,z2,z3,z4⟩:=cellsY5 (blk_keep N1.out hS)
   go_simp
  simp only [Act.put,lA,lB,lC,lD,lE,lF]
  exact RG.RunsS.nil
 refine RG.wpL_late (i:=5) (by kernel_rfl) (by rfl) (by rfl) (by kernel_rfl) (fun KX hK => ?_)
 have HK:=ζ hK
 clear hK
 go_simp
 refine (HTk.out Yz56 (HM.out.below HBz56.out).mp).mono ?_
 rintro e_z56 W1 ⟨rfl,hmp,hgr⟩
 have HM1:=ζ ((HM.out.below HBz56.out).grown hgr hmp)
 have N2 : Hid (W1.heap[w.heap.size]? = some (.cells #[.int .i64 who,.int .i64 op,.int .i64 a,.int .i64 va,.bool sh] 39 (0,0))):=by
  show _ = _
  have hk:=blk_keep N1.out HBz56.out
  rw [hgr.block _ (blk_lt hk) (fun e => (HM.out.below HBz56.out).mp.ne hk (by injection e with e;exact e.symm))]
  exact hk
 have NB1 : Hid (Below B w W1):=((NB.out.mono hBw).trans (HBz56.out.mono (Nat.le_trans hBw NB.out.size))).trans (below_grown hgr HM.out.hm (Nat.le_trans (Nat.le_trans hBw NB.out.size) HBz56.out.size))
 clear hmp hgr HM N1 NB HTk HBz56
 refine HK.out _ _ trivial ?_
 clear HK KX
 try simp only [Act.put,lA,lB,lC,lD,lE,lF]
 refine RG.wpL_done (by kernel_rfl) ?_ _
 refine NoPanic.normal ?_
 refine HK.out _ _ ?_
 clear HK K
 obtain ⟨z0,z1,z2,z3,z4⟩:=cellsY5 N2.out
 have hBW : B ≤ W1.heap.size:=Nat.le_of_lt (Nat.lt_of_le_of_lt HM1.out.hg (blk_lt HM1.out.blk))
 by_cases h5 : op = 5
 ·have k5 : (op == 5) = true:=by simp [h5]
  obtain ⟨c,rfl⟩ : ∃ c : Nat,a = (c : Int):=⟨a.toNat,by have:=(hfa _ (by rw [h5];rfl)).1;omega⟩
  have hcl : c < s.rooms.length:=by have:=(hfa _ (by rw [h5];rfl)).2;omega
  have c0 : (0 : Int) ≤ (c : Int):=by omega
  have c1 : (c : Int) < (s.rooms.length : Int):=by omega
  obtain ⟨b,cap,hv,hbB,⟨cur,hcur⟩,_,y⟩:=own_rw HM1.out.ins c hcl
  have HX : Hid (∀ Y,Below W1.heap.size W1 Y → Y.frozen? ⟨b,c,none⟩ = false ∧ NtM B (Y.setCell ⟨b,c,none⟩ (.int .i64 (((Tr.snC p (c : Int) : Int) - (Tr.tkC p (c : Int) : Int)) + 1))) g bm v1 v2 s pa pc ra rc (p ++ [⟨who,op,(c : Int),va,sh⟩]) (p ++ [⟨who,op,(c : Int),va,sh⟩]) ∧ Below B w (Y.setCell ⟨b,c,none⟩ (.int .i64 (((Tr.snC p (c : Int) : Int) - (Tr.tkC p (c : Int) : Int)) + 1)))):=fun Y hY => by
   refine ⟨?_,(HM1.out.below hY).setIn _ c b cap hv hcl _ ?_ (.inl h5) rfl,(NB1.out.trans (hY.mono hBW)).setCell hbB _⟩
   ·have h1:=(HM1.out.below hY).ins
    rw [hv] at h1;exact h1.frozenAt c
   ·unfold inV
    rw [Tr.snC_snoc,Tr.tkC_snoc,if_pos ⟨h5,rfl⟩,if_neg (fun h => by have:=h.1;simp at this;omega)]
    congr 1
    omega
  obtain ⟨x0,x1,x2,x3,x4,x5,x6,x7,x8⟩:=cellsY9 HM1.out.blk
  have ew : IntKind.i64.wrap (((Tr.snC p (c : Int) : Int) - (Tr.tkC p (c : Int) : Int)) + 1) = ((Tr.snC p (c : Int) : Int) - (Tr.tkC p (c : Int) : Int)) + 1:=by
   have h1:=Tr.snC_len p (c : Int)
   have h2:=Tr.tkC_len p (c : Int)
   rw [IntKind.wrap_i64];omega
  unfold inV at y;rw [hv] at x6;clear h5 hfa hst hl hcl hcur HM1 N2 hBw hBW hv;generalize ((Tr.snC p (c : Int) : Int) - (Tr.tkC p (c : Int) : Int)) = x at *;go_wp2;refine wp_region_noPanic ?_
  refine RG.wp_region_L (fun Z => Below W1.heap.size W1 Z) (fun Z => True) [10] (by kernel_rfl) ?_
  refine RG.wpL_any fun Yz57 hY => ?_
  have HBz57 : Hid (Below W1.heap.size W1 Yz57):=by rw [hY];exact below_drewN (Below.refl _ _) 1
  clear hY;refine RG.wpL_takeS (fuel:=1) (a':=?Az57) [0,1,2,3,4,5,6,7,8,9] (by kernel_rfl) (by kernel_rfl) (fun _ _ _ _ _ h => h) trivial (HBz57.out) ?rz57 ?_
  case rz57 =>
   iterate 3
    refine RG.rS ?_ (fun Z hT hS => ?_) ?_
    rotate_left
    ·go_simp
     rfl
    simp only [Act.put,lA,lB,lC,lD,lE,lF]
   refine RG.rS (.slice (some ⟨b,0,none⟩) s.rooms.length cap) (fun Z hT hS => ?_) ?_
   ·have x6:=keepC hS x6;have x7:=keepC hS x7;have z2:=keepC hS z2;have y:=keepC hS y
    go_simp
   simp only [Act.put,lA,lB,lC,lD,lE,lF]
   refine RG.rS ?_ (fun Z hT hS => ?_) ?_
   rotate_left
   ·go_simp
    rfl
   simp only [Act.put,lA,lB,lC,lD,lE,lF]
   refine RG.rS (.int .i64 (c : Int)) (fun Z hT hS => ?_) ?_
   ·have x6:=keepC hS x6;have x7:=keepC hS x7;have z2:=keepC hS z2;have y:=keepC hS y
    go_simp
   simp only [Act.put,lA,lB,lC,lD,lE,lF]
   refine RG.rS ?_ (fun Z hT hS => ?_) ?_
   rotate_left
   ·go_simp
    rfl
   simp only [Act.put,lA,lB,lC,lD,lE,lF]
   refine RG.rS (.int .i64 x) (fun Z hT hS => ?_) ?_
   ·have x6:=keepC hS x6;have x7:=keepC hS x7;have z2:=keepC hS z2;have y:=keepC hS y
    go_simp
   simp only [Act.put,lA,lB,lC,lD,lE,lF]
   iterate 2
    refine RG.rS ?_ (fun Z hT hS => ?_) ?_
    rotate_left
    ·go_simp
     rfl
    simp only [Act.put,lA,lB,lC,lD,lE,lF]
   exact RG.RunsS.nil
  obtain ⟨fz,hNM,hNB⟩:=HX.out Yz57 HBz57.out
  have cz:=keepC HBz57.out y
  have HNM:=ζ hNM
  have HNB:=ζ hNB
  clear hNM hNB;refine RG.wpL_late (i:=10) (by kernel_rfl) (by rfl) (by rfl) (by kernel_rfl) (fun KX hK => ?_)
  have HK:=ζ hK
  clear hK;go_simp;refine HK.out _ _ trivial ?_
  clear HK KX cz fz;refine RG.wpL_done (by kernel_rfl) ?_ _
  refine NoPanic.normal ?_
  go_end0
  exact ⟨rfl,HNM.out,HNB.out⟩
 have k5 : (op == 5) = false:=by simp [h5]
 by_cases h6 : op = 6
 ·have k6 : (op == 6) = true:=by simp [h6]
  cases sh with
  | true =>
   have HR : Hid (NtM B W1 g bm v1 v2 s pa pc ra rc (p ++ [⟨who,op,a,va,true⟩]) (p ++ [⟨who,op,a,va,true⟩])):=HM1.out.idle _ h5 (fun h => by cases h.2) (fun h => by have h' : op = 7:=h;omega) (fun h => by have h' : op = 14:=h.1;omega)
   have k7 : (op == 7) = false:=by simp;omega
   have k14 : (op == 14) = false:=by simp;omega
   clear h5 h6 hfa hst hl HM1 N2;go_wp2;go_end0
   exact ⟨rfl,HR.out,NB1.out⟩
  | false =>
   obtain ⟨c,rfl⟩ : ∃ c : Nat,a = (c : Int):=⟨a.toNat,by have:=(hfa _ (by rw [h6];rfl)).1;omega⟩
   have hcl : c < s.rooms.length:=by have:=(hfa _ (by rw [h6];rfl)).2;omega
   have c0 : (0 : Int) ≤ (c : Int):=by omega
   have c1 : (c : Int) < (s.rooms.length : Int):=by omega
   obtain ⟨b,cap,hv,hbB,⟨cur,hcur⟩,_,y⟩:=own_rw HM1.out.ins c hcl
   have HX : Hid (∀ Y,Below W1.heap.size W1 Y → Y.frozen? ⟨b,c,none⟩ = false ∧ NtM B (Y.setCell ⟨b,c,none⟩ (.int .i64 (((Tr.snC p (c : Int) : Int) - (Tr.tkC p (c : Int) : Int)) - 1))) g bm v1 v2 s pa pc ra rc (p ++ [⟨who,op,(c : Int),va,false⟩]) (p ++ [⟨who,op,(c : Int),va,false⟩]) ∧ Below B w (Y.setCell ⟨b,c,none⟩ (.int .i64 (((Tr.snC p (c : Int) : Int) - (Tr.tkC p (c : Int) : Int)) - 1)))):=fun Y hY => by
    refine ⟨?_,(HM1.out.below hY).setIn _ c b cap hv hcl _ ?_ (.inr ⟨h6,rfl⟩) rfl,(NB1.out.trans (hY.mono hBW)).setCell hbB _⟩
    ·have h1:=(HM1.out.below hY).ins
     rw [hv] at h1;exact h1.frozenAt c
    ·unfold inV
     rw [Tr.snC_snoc,Tr.tkC_snoc,if_neg (fun h => by have:=h.1;simp at this;omega),if_pos ⟨h6,rfl,rfl⟩]
     congr 1
     omega
   obtain ⟨x0,x1,x2,x3,x4,x5,x6,x7,x8⟩:=cellsY9 HM1.out.blk
   have ew : IntKind.i64.wrap (((Tr.snC p (c : Int) : Int) - (Tr.tkC p (c : Int) : Int)) - 1) = ((Tr.snC p (c : Int) : Int) - (Tr.tkC p (c : Int) : Int)) - 1:=by
    have h1:=Tr.snC_len p (c : Int)
    have h2:=Tr.tkC_len p (c : Int)
    rw [IntKind.wrap_i64];omega
   unfold inV at y;rw [hv] at x6;clear h5 h6 hfa hst hl hcl hcur HM1 N2 hBw hBW hv;generalize ((Tr.snC p (c : Int) : Int) - (Tr.tkC p (c : Int) : Int)) = x at *;go_wp2;refine wp_region_noPanic ?_
   refine RG.wp_region_L (fun Z => Below W1.heap.size W1 Z) (fun Z => True) [10] (by kernel_rfl) ?_
   refine RG.wpL_any fun Yz58 hY => ?_
   have HBz58 : Hid (Below W1.heap.size W1 Yz58):=by rw [hY];exact below_drewN (Below.refl _ _) 1
   clear hY;refine RG.wpL_takeS (fuel:=1) (a':=?Az58) [0,1,2,3,4,5,6,7,8,9] (by kernel_rfl) (by kernel_rfl) (fun _ _ _ _ _ h => h) trivial (HBz58.out) ?rz58 ?_
   case rz58 =>
    iterate 3
     refine RG.rS ?_ (fun Z hT hS => ?_) ?_
     rotate_left
     ·go_simp
      rfl
     simp only [Act.put,lA,lB,lC,lD,lE,lF]
    refine RG.rS (.slice (some ⟨b,0,none⟩) s.rooms.length cap) (fun Z hT hS => ?_) ?_
    ·have x6:=keepC hS x6;have x7:=keepC hS x7;have z2:=keepC hS z2;have y:=keepC hS y
     go_simp
    simp only [Act.put,lA,lB,lC,lD,lE,lF]
    refine RG.rS ?_ (fun Z hT hS => ?_) ?_
    rotate_left
    ·go_simp
     rfl
    simp only [Act.put,lA,lB,lC,lD,lE,lF]
    refine RG.rS (.int .i64 (c : Int)) (fun Z hT hS => ?_) ?_
    ·have x6:=keepC hS x6;have x7:=keepC hS x7;have z2:=keepC hS z2;have y:=keepC hS y
     go_simp
    simp only [Act.put,lA,lB,lC,lD,lE,lF]
    refine RG.rS ?_ (fun Z hT hS => ?_) ?_
    rotate_left
    ·go_simp
     rfl
    simp only [Act.put,lA,lB,lC,lD,lE,lF]
    refine RG.rS (.int .i64 x) (fun Z hT hS => ?_) ?_
    ·have x6:=keepC hS x6;have x7:=keepC hS x7;have z2:=keepC hS z2;have y:=keepC hS y
     go_simp
    simp only [Act.put,lA,lB,lC,lD,lE,lF]
    iterate 2
     refine RG.rS ?_ (fun Z hT hS => ?_) ?_
     rotate_left
     ·go_simp
      rfl
     simp only [Act.put,lA,lB,lC,lD,lE,lF]
    exact RG.RunsS.nil
   obtain ⟨fz,hNM,hNB⟩:=HX.out Yz58 HBz58.out
   have cz:=keepC HBz58.out y
   have HNM:=ζ hNM
   have HNB:=ζ hNB
   clear hNM hNB;refine RG.wpL_late (i:=10) (by kernel_rfl) (by rfl) (by rfl) (by kernel_rfl) (fun KX hK => ?_)
   have HK:=ζ hK
   clear hK;go_simp;refine HK.out _ _ trivial ?_
   clear HK KX cz fz;refine RG.wpL_done (by kernel_rfl) ?_ _
   refine NoPanic.normal ?_
   go_end0
   exact ⟨rfl,HNM.out,HNB.out⟩
 have k6 : (op == 6) = false:=by simp [h6]
 by_cases h7 : op = 7
 ·have k7 : (op == 7) = true:=by simp [h7]
  obtain ⟨c,rfl⟩ : ∃ c : Nat,a = (c : Int):=⟨a.toNat,by have:=(hfa _ (by rw [h7];rfl)).1;omega⟩
  have hcl : c < s.rooms.length:=by have:=(hfa _ (by rw [h7];rfl)).2;omega
  have c0 : (0 : Int) ≤ (c : Int):=by omega
  have c1 : (c : Int) < (s.rooms.length : Int):=by omega
  obtain ⟨b,cap,hv,hbB,⟨cur,hcur⟩,_,y⟩:=own_rw HM1.out.cls c hcl
  have HX : Hid (∀ Y,Below W1.heap.size W1 Y → Y.frozen? ⟨b,c,none⟩ = false ∧ NtM B (Y.setCell ⟨b,c,none⟩ (.bool true)) g bm v1 v2 s pa pc ra rc (p ++ [⟨who,op,(c : Int),va,sh⟩]) (p ++ [⟨who,op,(c : Int),va,sh⟩]) ∧ Below B w (Y.setCell ⟨b,c,none⟩ (.bool true))):=fun Y hY => by
   refine ⟨?_,(HM1.out.below hY).setCl _ c b cap hv hcl h7 rfl,(NB1.out.trans (hY.mono hBW)).setCell hbB _⟩
   have h1:=(HM1.out.below hY).cls
   rw [hv] at h1;exact h1.frozenAt c
  obtain ⟨x0,x1,x2,x3,x4,x5,x6,x7,x8⟩:=cellsY9 HM1.out.blk
  rw [hv] at x7;clear h5 h6 h7 hfa hst hl hcl hcur HM1 N2 hBw hBW hv;go_wp2;refine wp_region_noPanic ?_
  refine RG.wp_region_L (fun Z => Below W1.heap.size W1 Z) (fun Z => True) [7] (by kernel_rfl) ?_
  refine RG.wpL_any fun Yz59 hY => ?_
  have HBz59 : Hid (Below W1.heap.size W1 Yz59):=by rw [hY];exact below_drewN (Below.refl _ _) 1
  clear hY;refine RG.wpL_takeS (fuel:=1) (a':=?Az59) [0,1,2,3,4,5,6] (by kernel_rfl) (by kernel_rfl) (fun _ _ _ _ _ h => h) trivial (HBz59.out) ?rz59 ?_
  case rz59 =>
   iterate 3
    refine RG.rS ?_ (fun Z hT hS => ?_) ?_
    rotate_left
    ·go_simp
     rfl
    simp only [Act.put,lA,lB,lC,lD,lE,lF]
   refine RG.rS (.slice (some ⟨b,0,none⟩) s.rooms.length cap) (fun Z hT hS => ?_) ?_
   ·have x6:=keepC hS x6;have x7:=keepC hS x7;have z2:=keepC hS z2;have y:=keepC hS y
    go_simp
   simp only [Act.put,lA,lB,lC,lD,lE,lF]
   refine RG.rS ?_ (fun Z hT hS => ?_) ?_
   rotate_left
   ·go_simp
    rfl
   simp only [Act.put,lA,lB,lC,lD,lE,lF]
   refine RG.rS (.int .i64 (c : Int)) (fun Z hT hS => ?_) ?_
   ·have x6:=keepC hS x6;have x7:=keepC hS x7;have z2:=keepC hS z2;have y:=keepC hS y
    go_simp
   simp only [Act.put,lA,lB,lC,lD,lE,lF]
   refine RG.rS ?_ (fun Z hT hS => ?_) ?_
   rotate_left
   ·go_simp
    rfl
   simp only [Act.put,lA,lB,lC,lD,lE,lF]
   exact RG.RunsS.nil
  obtain ⟨fz,hNM,hNB⟩:=HX.out Yz59 HBz59.out
  have cz:=keepC HBz59.out y
  have HNM:=ζ hNM
  have HNB:=ζ hNB
  clear hNM hNB;refine RG.wpL_late (i:=7) (by kernel_rfl) (by rfl) (by rfl) (by kernel_rfl) (fun KX hK => ?_)
  have HK:=ζ hK
  clear hK;go_simp;refine HK.out _ _ trivial ?_
  clear HK KX cz fz;refine RG.wpL_done (by kernel_rfl) ?_ _
  refine NoPanic.normal ?_
  go_end0
  exact ⟨rfl,HNM.out,HNB.out⟩
 have k7 : (op == 7) = false:=by simp [h7]
 by_cases h14 : op = 14 ∧ va ≠ 0
 ·have k14 : (op == 14) = true:=by simp [h14.1]
  have kv : 0 < va:=by
   rcases hst h14.1 with h | h
   ·exact absurd h h14.2
   ·have:=Tr.rnC_pos p
    omega
  have HX : Hid (NtM B (W1.setCell ⟨g,5,none⟩ (.int .i64 ((Tr.rnC p : Int) + 1))) g bm v1 v2 s pa pc ra rc (p ++ [⟨who,op,a,va,sh⟩]) (p ++ [⟨who,op,a,va,sh⟩])):=HM1.out.setRn _ h14.1 h14.2
  have HY : Hid (Below B w (W1.setCell ⟨g,5,none⟩ (.int .i64 ((Tr.rnC p : Int) + 1)))):=NB1.out.setCell HM1.out.hg _
  have fz : W1.frozen? ⟨g,5,none⟩ = false:=frozen_of_row W1 g 5 _ _ HM1.out.blk
  obtain ⟨x0,x1,x2,x3,x4,x5,x6,x7,x8⟩:=cellsY9 HM1.out.blk
  have ew : IntKind.i64.wrap ((Tr.rnC p : Int) + 1) = (Tr.rnC p : Int) + 1:=by
   have h1:=Tr.rnC_len p
   rw [IntKind.wrap_i64];omega
  clear h5 h6 h7 h14 hfa hst hl HM1 N2 hBw hBW;generalize (Tr.rnC p : Int) = x at *;go_wp2;go_end0
  exact ⟨rfl,HX.out,HY.out⟩
 have HR : Hid (NtM B W1 g bm v1 v2 s pa pc ra rc (p ++ [⟨who,op,a,va,sh⟩]) (p ++ [⟨who,op,a,va,sh⟩])):=HM1.out.idle _ h5 (fun h => h6 h.1) h7 h14
 clear hfa HM1 N2 hBw hBW h5 h6 h7 hl
 by_cases h14' : op = 14
 ·have k14 : (op == 14) = true:=by simp [h14']
  have kv : (0 < va) = False:=by simp;omega
  clear h14 h14' hst;go_wp2;go_end0
  exact ⟨rfl,HR.out,NB1.out⟩
 ·have k14 : (op == 14) = false:=by simp [h14']
  clear h14 h14' hst;go_wp2;go_end0
  exact ⟨rfl,HR.out,NB1.out⟩
end LW
end Go.Proofs.Ytfbnakmmmphedaa
