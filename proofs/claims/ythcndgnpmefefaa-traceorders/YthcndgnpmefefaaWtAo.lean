/-
  Wt, Wu in one.
-/
import Derived.Test.YthcndgnpmefefaaWyo
import Derived.Test.YthcndgnpmefefaaCkCo
import Derived.Test.YthcndgnpmefefaaOno
import Derived.Test.YthcndgnpmefefaaEdAo
set_option linter.unusedVariables false
set_option linter.unusedSimpArgs false
namespace Go.Proofs.Ythcndgnpmefefaa
open Go.RowKit
namespace LW
open Mc
def WyU (w : World) (s : Syst) (l : List Ev) (i j : Int) : Ending → World → Prop:=fun e w' => (beE s l i j ≠ 0 → e = .returned (.tuple #[.slice none 0 0,.int .i64 (beE s l i j)])) ∧ (beE s l i j = 0 → ∃ v r,e = .returned (.tuple #[v,.int .i64 0]) ∧ WyR s l i.toNat j.toNat r ∧ r.length ≤ 40000 ∧ w'.ownsRow w.heap.size 3 1 v r.length (r.map (Value.int .i64))) ∧ Below w.heap.size w w'
set_option maxRecDepth 100000 in
set_option maxHeartbeats 4000000 in
theorem ptway (s : Syst) (pa : Option Addr) (pc : Nat) (ra : Option Addr) (rc : Nat) (la : Option Addr) (lc : Nat) (l : List Ev) (i j : Int) (w : World) (hs : SyI w s pa ra) (hl : EvI w la lc l) :
  Calls Try.prog 16 #[.agg #[.slice pa s.progs.length pc,.slice ra s.rooms.length rc,.int .i64 s.groups,.int .i64 s.locks,.int .i64 s.cells],.slice la l.length lc,.int .i64 i,.int .i64 j] w (WyU w s l i j):=by
 obtain ⟨POST,hP⟩ : ∃ Q : Ending → World → Prop,Q = (WyU w s l i j):=⟨_,rfl⟩
 obtain ⟨va,vn,ve,hV⟩ : ∃ a n e,Tr.vR s l = (a,n,e):=⟨_,_,_,rfl⟩
 have HRd : Hid (∀ W,Below w.heap.size w W → Calls Try.prog 19 #[.agg #[.slice pa s.progs.length pc,.slice ra s.rooms.length rc,.int .i64 s.groups,.int .i64 s.locks,.int .i64 s.cells],.slice la l.length lc] W fun e w' => ∃ hc,e = .returned (.tuple #[.agg hc,.int .i64 va,.int .i64 ve]) ∧ (ve = 0 → hc = #[.slice pa s.progs.length pc,.slice ra s.rooms.length rc,.int .i64 s.groups,.int .i64 s.locks,.int .i64 s.cells,.slice la l.length lc,.int .i64 (Tr.rnC l : Int)]) ∧ (ve ≠ 0 → hc = #[.slice none 0 0,.slice none 0 0,.int .i64 0,.int .i64 0,.int .i64 0,.slice none 0 0,.int .i64 0]) ∧ Below W.heap.size W w'):=fun W hW => (pread s pa pc ra rc la lc l W (hs.below hW) (hl.below hW)).mono (fun e w' h => by unfold ReaQ at h;rw [hV] at h;exact h)
 have HOk : Hid (ve = 0 → Ok s ∧ l.length ≤ 40000 ∧ Tr.Gd s l l.length):=fun h => by
  have h2:=Tr.vR_ok (s:=s) (l:=l) (by rw [hV];exact h)
  exact ⟨h2.1,h2.2.1,h2.2.2.1⟩
 have HPe : Hid (ve ≠ 0 → ∀ W,Below w.heap.size w W → POST (.returned (.tuple #[.slice none 0 0,.int .i64 ve])) W):=fun h W hW => by
  rw [hP]
  unfold WyU
  have h1 : beE s l i j = ve:=by unfold beE;rw [hV];exact if_neg h
  rw [h1]
  exact ⟨fun _ => rfl,fun h2 => absurd h2 h,hW⟩
 have HPa : Hid (ve = 0 → ¬ ((0 ≤ i ∧ i < (l.length : Int)) ∧ (0 ≤ j ∧ j < (l.length : Int))) → ∀ W,Below w.heap.size w W → POST (.returned (.tuple #[.slice none 0 0,.int .i64 1])) W):=fun h hi W hW => by
  rw [hP]
  unfold WyU
  have h1 : beE s l i j = 1:=by unfold beE;rw [hV];dsimp only;rw [if_pos h,if_neg hi]
  rw [h1]
  exact ⟨fun _ => rfl,fun h2 => absurd h2 (by decide),hW⟩
 have HPo : Hid (ve = 0 → ∀ (k m : Nat),i = (k : Int) → k < l.length → j = (m : Int) → m < l.length → ∀ W v r,WyR s l k m r → r.length ≤ 40000 → W.ownsRow w.heap.size 3 1 v r.length (r.map (Value.int .i64)) → Below w.heap.size w W → POST (.returned (.tuple #[v,.int .i64 0])) W):=fun h k m e hk e2 hm W v r q1 q2 q3 hW => by
  rw [hP]
  unfold WyU
  have h1 : beE s l i j = 0:=by unfold beE;rw [hV];dsimp only;rw [if_pos h,if_pos (by omega)]
  rw [h1]
  have e3 : i.toNat = k:=by omega
  have e4 : j.toNat = m:=by omega
  rw [e3,e4]
  exact ⟨fun h2 => absurd rfl h2,fun _ => ⟨v,r,rfl,q1,q2,q3⟩,hW⟩
 rw [← hP]
 have HEw:=TW.hide hl
 have HSw:=TW.hide hs
 clear hP hs hl hV
 have hA : Below w.heap.size w (w.alloc (.cells #[.slice pa s.progs.length pc,.slice ra s.rooms.length rc,.int .i64 s.groups,.int .i64 s.locks,.int .i64 s.cells] 25)):=(Below.refl _ _).alloc (Nat.le_refl _) _
 have N1 : Hid ((w.alloc (.cells #[.slice pa s.progs.length pc,.slice ra s.rooms.length rc,.int .i64 s.groups,.int .i64 s.locks,.int .i64 s.cells] 25)).heap[w.heap.size]? = some (.cells #[.slice pa s.progs.length pc,.slice ra s.rooms.length rc,.int .i64 s.groups,.int .i64 s.locks,.int .i64 s.cells] 25 (0,0))):=heap_alloc_new w _
 have NB:=TW.hide hA
 clear hA
 go_enter Try.func16,Try.ntmps16
 refine wp_seq_k fun K hK => ?_
 have HK:=TW.hide hK
 clear hK
 go_wp2
 refine HK.out _ _ ?_
 clear HK K
 generalize w.alloc _ = X at *
 obtain ⟨s0,s1,s2,s3,s4⟩:=cellsY5 N1.out
 go_wp2_with fail
 refine (HRd.out X NB.out).mono ?_
 rintro e1 W1 ⟨hc,rfl,h1,h2,hb⟩
 have NB1 : Hid (Below w.heap.size w W1):=NB.out.trans (hb.mono NB.out.size)
 have NS:=TW.hide (blk_keep N1.out hb)
 clear hb NB N1 s0 s1 s2 s3 s4 HRd
 by_cases he : ve = 0
 ·obtain rfl:=h1 he
  obtain ⟨ho,hn,hg⟩:=HOk.out he
  have NB2 : Hid (Below w.heap.size w ((W1.alloc (.cells #[.slice none 0 0,.slice none 0 0,.int .i64 0,.int .i64 0,.int .i64 0,.slice none 0 0,.int .i64 0] 57)).setRow W1.heap.size #[.slice pa s.progs.length pc,.slice ra s.rooms.length rc,.int .i64 s.groups,.int .i64 s.locks,.int .i64 s.cells,.slice la l.length lc,.int .i64 (Tr.rnC l : Int)])):=below_setRow (NB1.out.alloc NB1.out.size _) NB1.out.size
  have hA_ : Below W1.heap.size W1 ((W1.alloc (.cells #[.slice none 0 0,.slice none 0 0,.int .i64 0,.int .i64 0,.int .i64 0,.slice none 0 0,.int .i64 0] 57)).setRow W1.heap.size #[.slice pa s.progs.length pc,.slice ra s.rooms.length rc,.int .i64 s.groups,.int .i64 s.locks,.int .i64 s.cells,.slice la l.length lc,.int .i64 (Tr.rnC l : Int)]):=below_setRow ((Below.refl _ _).alloc (Nat.le_refl _) _) (Nat.le_refl _)
  have NS2:=TW.hide (blk_keep NS.out hA_)
  have N2 : Hid (((W1.alloc (.cells #[.slice none 0 0,.slice none 0 0,.int .i64 0,.int .i64 0,.int .i64 0,.slice none 0 0,.int .i64 0] 57)).setRow W1.heap.size #[.slice pa s.progs.length pc,.slice ra s.rooms.length rc,.int .i64 s.groups,.int .i64 s.locks,.int .i64 s.cells,.slice la l.length lc,.int .i64 (Tr.rnC l : Int)]).heap[W1.heap.size]? = some (.cells #[.slice pa s.progs.length pc,.slice ra s.rooms.length rc,.int .i64 s.groups,.int .i64 s.locks,.int .i64 s.cells,.slice la l.length lc,.int .i64 (Tr.rnC l : Int)] 57 (0,0))):=setRow_heap _ _ _ _ _ _ (heap_alloc_new W1 _)
  clear hA_ NS
  have HHs : Hid (∀ (x : Int) W,Calls Try.prog 25 #[.agg #[.slice pa s.progs.length pc,.slice ra s.rooms.length rc,.int .i64 s.groups,.int .i64 s.locks,.int .i64 s.cells,.slice la l.length lc,.int .i64 (Tr.rnC l : Int)],.int .i64 x] W fun e w' => e = .returned (.bool (decide (0 ≤ x ∧ x < (l.length : Int)))) ∧ Below W.heap.size W w'):=fun x W => phas9 s pa pc ra rc la lc l _ x W
  have HBe : Hid (∀ k m : Nat,k < l.length → m < l.length → ∀ W,Below w.heap.size w W → Calls Try.prog 29 #[.agg #[.slice pa s.progs.length pc,.slice ra s.rooms.length rc,.int .i64 s.groups,.int .i64 s.locks,.int .i64 s.cells,.slice la l.length lc,.int .i64 (Tr.rnC l : Int)],.int .i64 (k : Int),.int .i64 (m : Int)] W fun e w' => ∃ v r,e = .returned v ∧ WyR s l k m r ∧ r.length ≤ 40000 ∧ w'.ownsRow W.heap.size 3 1 v r.length (r.map (Value.int .i64)) ∧ Below W.heap.size W w'):=fun k m hk hm W hW => phway s pa pc ra rc la lc l k m W (HEw.out.below hW) ho hg hn hk hm (fun W2 hW2 => ponward s pa pc ra rc la lc l W2 (HSw.out.below (hW.trans (hW2.mono hW.size))) (HEw.out.below (hW.trans (hW2.mono hW.size))) ho hg hn)
  have HPa':=TW.hide (HPa.out he)
  have HPo':=TW.hide (HPo.out he)
  subst he
  clear h1 h2 ho hn hg HOk HPe HPa HPo HEw HSw
  go_wp2_with (first | (refine wpList_store_row (by rfl) 57 _ _ (by rfl) W1.heap.size #[.slice pa s.progs.length pc,.slice ra s.rooms.length rc,.int .i64 s.groups,.int .i64 s.locks,.int .i64 s.cells,.slice la l.length lc,.int .i64 (Tr.rnC l : Int)] (by rfl) (by rfl) 57 _ (heap_alloc_new W1 _) (by kernel_rfl) (by rfl) (by simp [Value.oneCell']) ?_;generalize World.setRow _ _ _ = X2 at *;generalize W1.heap.size = g2 at *;obtain ⟨q0,q1,q2,q3,q4,q5,q6⟩:=cellsY7 N2.out;obtain ⟨r0,r1,r2,r3,r4⟩:=cellsY5 NS2.out) | fail)
  refine (HHs.out i X2).mono ?_
  rintro e3 W3 ⟨rfl,hb⟩
  have NB3 : Hid (Below w.heap.size w W3):=NB2.out.trans (hb.mono NB2.out.size)
  have N3:=TW.hide (blk_keep N2.out hb)
  clear hb q0 q1 q2 q3 q4 q5 q6 r0 r1 r2 r3 r4 N2 NS2 NB2
  obtain ⟨q0,q1,q2,q3,q4,q5,q6⟩:=cellsY7 N3.out
  by_cases hi : 0 ≤ i ∧ i < (l.length : Int)
  ·have kd : (decide (0 ≤ i ∧ i < (l.length : Int))) = true:=decide_eq_true hi
   rw [kd]
   clear kd
   go_wp2_with fail
   refine (HHs.out j W3).mono ?_
   rintro e4 W4 ⟨rfl,hb⟩
   have NB4 : Hid (Below w.heap.size w W4):=NB3.out.trans (hb.mono NB3.out.size)
   have N4:=TW.hide (blk_keep N3.out hb)
   clear hb q0 q1 q2 q3 q4 q5 q6 N3 NB3
   obtain ⟨q0,q1,q2,q3,q4,q5,q6⟩:=cellsY7 N4.out
   by_cases hj : 0 ≤ j ∧ j < (l.length : Int)
   ·have kd : (decide (0 ≤ j ∧ j < (l.length : Int))) = true:=decide_eq_true hj
    rw [kd]
    obtain ⟨k,rfl⟩ : ∃ k : Nat,i = (k : Int):=⟨i.toNat,by omega⟩
    obtain ⟨m,rfl⟩ : ∃ m : Nat,j = (m : Int):=⟨j.toNat,by omega⟩
    have hk : k < l.length:=by omega
    have hm : m < l.length:=by omega
    have HH:=TW.hide (HBe.out k m hk hm W4 NB4.out)
    have HPk:=TW.hide (HPo'.out k m rfl hk rfl hm)
    clear kd hi hj hk hm HBe HPo' HPa' HHs
    go_wp2_with fail
    refine HH.out.mono ?_
    rintro e5 W5 ⟨v5,r5,rfl,hw5,hl5,ho5,hb⟩
    have HR:=TW.hide (HPk.out W5 v5 r5 hw5 hl5 (own_baseL ho5 NB4.out.size) (NB4.out.trans (hb.mono NB4.out.size)))
    obtain ⟨u5a,u5c,e5⟩:=own_openE ho5
    subst e5
    clear hb HPk HH hw5 hl5 ho5
    go_wp2
    first | exact HR.out | exact ⟨rfl,HR.out⟩
   ·have kd : (decide (0 ≤ j ∧ j < (l.length : Int))) = false:=decide_eq_false hj
    have HR:=TW.hide (HPa'.out (fun h => hj h.2) W4 NB4.out)
    rw [kd]
    clear hi hj kd HBe HPo' HPa' HHs
    go_wp2
    first | exact HR.out | exact ⟨rfl,HR.out⟩
  ·have kd : (decide (0 ≤ i ∧ i < (l.length : Int))) = false:=decide_eq_false hi
   have HR:=TW.hide (HPa'.out (fun h => hi h.1) W3 NB3.out)
   rw [kd]
   clear hi kd HBe HPo' HPa' HHs
   go_wp2
   first | exact HR.out | exact ⟨rfl,HR.out⟩
 ·obtain rfl:=h2 he
  have NB2 : Hid (Below w.heap.size w ((W1.alloc (.cells #[.slice none 0 0,.slice none 0 0,.int .i64 0,.int .i64 0,.int .i64 0,.slice none 0 0,.int .i64 0] 57)).setRow W1.heap.size #[.slice none 0 0,.slice none 0 0,.int .i64 0,.int .i64 0,.int .i64 0,.slice none 0 0,.int .i64 0])):=below_setRow (NB1.out.alloc NB1.out.size _) NB1.out.size
  have hA_ : Below W1.heap.size W1 ((W1.alloc (.cells #[.slice none 0 0,.slice none 0 0,.int .i64 0,.int .i64 0,.int .i64 0,.slice none 0 0,.int .i64 0] 57)).setRow W1.heap.size #[.slice none 0 0,.slice none 0 0,.int .i64 0,.int .i64 0,.int .i64 0,.slice none 0 0,.int .i64 0]):=below_setRow ((Below.refl _ _).alloc (Nat.le_refl _) _) (Nat.le_refl _)
  have NS2:=TW.hide (blk_keep NS.out hA_)
  have N2 : Hid (((W1.alloc (.cells #[.slice none 0 0,.slice none 0 0,.int .i64 0,.int .i64 0,.int .i64 0,.slice none 0 0,.int .i64 0] 57)).setRow W1.heap.size #[.slice none 0 0,.slice none 0 0,.int .i64 0,.int .i64 0,.int .i64 0,.slice none 0 0,.int .i64 0]).heap[W1.heap.size]? = some (.cells #[.slice none 0 0,.slice none 0 0,.int .i64 0,.int .i64 0,.int .i64 0,.slice none 0 0,.int .i64 0] 57 (0,0))):=setRow_heap _ _ _ _ _ _ (heap_alloc_new W1 _)
  clear hA_ NS
  have HPe':=TW.hide (HPe.out he)
  have kv : (ve != 0) = true:=by simp [he]
  clear he h1 h2 HOk HPe HPa HPo HEw HSw
  go_wp2_with (first | (refine wpList_store_row (by rfl) 57 _ _ (by rfl) W1.heap.size #[.slice none 0 0,.slice none 0 0,.int .i64 0,.int .i64 0,.int .i64 0,.slice none 0 0,.int .i64 0] (by rfl) (by rfl) 57 _ (heap_alloc_new W1 _) (by kernel_rfl) (by rfl) (by simp [Value.oneCell']) ?_;generalize World.setRow _ _ _ = X2 at *;generalize W1.heap.size = g2 at *;obtain ⟨q0,q1,q2,q3,q4,q5,q6⟩:=cellsY7 N2.out;obtain ⟨r0,r1,r2,r3,r4⟩:=cellsY5 NS2.out) | fail)
  have HR:=TW.hide (HPe'.out X2 NB2.out)
  first | exact HR.out | exact ⟨rfl,HR.out⟩
end LW
end Go.Proofs.Ythcndgnpmefefaa
set_option maxRecDepth 100000
namespace Go.Proofs.Ythcndgnpmefefaa
open Mc Go.RowKit
namespace LW
theorem QI.reach {s : Syst} {l : List Ev} {i j : Nat} {R : Nat → List Int} {Q : List Eg2} {h : Nat} (H : QI s l i j R Q h) : ∀ n k,k < n → 0 < k → k < Q.length → ∀ t : Nat,qT Q k = (t : Int) → Tr.Bf s l i t:=by
 intro n
 induction n with
 | zero => intro k hk;omega
 | succ n ih =>
  intro k hk k0 kl t ht
  obtain ⟨a,f,t2,q1,_,q3,q4,q5⟩:=H.st k k0 kl
  have e : t2 = t:=by
   unfold qT at ht
   rw [q4] at ht
   have ht : (t2 : Int) = (t : Int):=ht
   omega
  subst e
  by_cases h0 : a = 0
  ·subst h0
   have hq : qT Q 0 = (i : Int):=by unfold qT;rw [H.at]
   rw [hq] at q3
   obtain rfl : i = f:=by omega
   exact Tr.Bf.one q5
  ·exact Tr.Bf.more (ih a (by omega) (by omega) (by omega) f q3) q5
theorem wyr_ok {s : Syst} {l : List Ev} {i j : Nat} {r : List Int} (hg : Tr.Gd s l l.length) (ho : Ok s) (hi : i < l.length) (hj : j < l.length) (h : WyR s l i j r) : (Tr.Bf s l i j → 2 ≤ r.length ∧ r.getD 0 0 = (i : Int) ∧ r.getD (r.length - 1) 0 = (j : Int) ∧ ∀ m,m + 1 < r.length → ∃ f t : Nat,r.getD m 0 = (f : Int) ∧ r.getD (m + 1) 0 = (t : Int) ∧ t < l.length ∧ Tr.Eg s l f t) ∧ (¬ Tr.Bf s l i j → r = []):=by
 rcases h with ⟨h1,h2⟩ | ⟨hij,ed,R,Q,h,_,hed,hrc,h3⟩
 ·exact ⟨fun hb => absurd hb.lt (by omega),fun _ => h2⟩
 ·have H:=hrc.inv hg ho hed hi
  rcases h3 with ⟨h4,h5⟩ | ⟨h4,h5,h6,h7,h8,h9⟩
  ·exact ⟨fun hb => absurd hb (H.none h4 hj),fun _ => h5⟩
  ·have hh : 0 < h:=by
    rcases Nat.eq_zero_or_pos h with rfl | h
    ·have hq : qT Q 0 = (i : Int):=by unfold qT;rw [H.at]
     rw [hq] at h5
     omega
    ·exact h
   have hb:=H.reach (h + 1) h (by omega) hh h4 j h5
   refine ⟨fun _ => ⟨?_,h7,h8,fun m hm => ?_⟩,fun h => absurd hb h⟩
   ·rcases Nat.lt_or_ge r.length 2 with h2 | h2
    ·have h1 : r.length - 1 = 0:=by omega
     rw [h1,h7] at h8
     omega
    ·exact h2
   ·obtain ⟨k,hk,e⟩:=List.mem_iff_getElem.1 (h9 m hm)
    rw [List.length_drop] at hk
    rw [List.getElem_drop] at e
    obtain ⟨a,f,t,_,_,_,q4,q5⟩:=H.st (1 + k) (by omega) (by omega)
    obtain ⟨t2,q6,q7⟩:=H.lt _ (qT_mem Q (1 + k) (by omega))
    have e2 : Q.getD (1 + k) (0,0) = (r.getD m 0,r.getD (m + 1) 0):=by
     rw [List.getD_eq_getElem?_getD,List.getElem?_eq_getElem (by omega)]
     exact e
    unfold qT at q6
    rw [q4] at q6
    rw [q4] at e2
    injection e2 with e3 e4
    have q6 : (t : Int) = (t2 : Int):=q6
    exact ⟨f,t,e3.symm,e4.symm,by omega,q5⟩
def fdE (E : List Eg2) (x y : Int) (n : Nat) : Bool:=(E.take n).any (fun e => decide (e.1 = x) && decide (e.2 = y))
theorem fdE_all (E : List Eg2) (x y : Int) (h : (x,y) ∈ E) : fdE E x y E.length = true:=by
 unfold fdE
 rw [List.take_length,List.any_eq_true]
 exact ⟨_,h,by simp⟩
end LW
end Go.Proofs.Ythcndgnpmefefaa
