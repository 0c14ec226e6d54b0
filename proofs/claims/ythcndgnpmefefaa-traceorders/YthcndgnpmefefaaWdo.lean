/-
 The document's Way.
-/
import Derived.Test.YthcndgnpmefefaaBtAo
import Derived.Test.YthcndgnpmefefaaWvAo
import Derived.Test.YthcndgnpmefefaaLoo
import Derived.Test.YthcndgnpmefefaaEdAo
import Derived.Test.YthcndgnpmefefaaJnAo
set_option linter.unusedVariables false
set_option linter.unusedSimpArgs false
namespace Go.Proofs.Ythcndgnpmefefaa
open List renaming setIfInBounds_toArray → lpA,set_cons_zero → lpZ,set_cons_succ → lpS,getElem_toArray → lgT,getElem_cons_zero → lgZ,getElem_cons_succ → lgS
open Go.RowKit
namespace LW
open Mc
theorem zz_set (F : Nat → Int) (n k : Nat) (x : Int) : ((List.range n).map F).set k x = (List.range n).map (fun q => if q = k then x else F q):=by
 symm
 refine ext_rng _ _ _ (by simp) (fun q hq => ?_)
 rw [getD_set]
 by_cases e : k = q
 ·subst e
  rw [if_pos ⟨rfl,by simpa using hq⟩,if_pos rfl]
 ·rw [if_neg (fun h => e h.1),rng_getD _ n q hq,if_neg (fun h => e h.symm)]
def RowsE (s : Syst) (l : List Ev) (k : Nat) (cs : Nat → List Int) : Prop:=∀ q,q < k → (∀ x,x ∈ cs q ↔ ∃ i : Nat,x = (i : Int) ∧ Tr.Eg s l i q) ∧ (cs q).length ≤ 40001
theorem RowsE.next {s : Syst} {l : List Ev} {k : Nat} {cs : Nat → List Int} (h : RowsE s l k cs) (out : List Int) (h1 : ∀ x,x ∈ out ↔ ∃ i : Nat,x = (i : Int) ∧ Tr.Eg s l i k) (h2 : out.length ≤ 40001) : RowsE s l (k + 1) (put cs k out):=by
 intro q hq
 by_cases e : q = k
 ·subst e
  rw [put_same]
  exact ⟨h1,h2⟩
 ·rw [put_other _ _ _ _ e]
  exact h q (by omega)
def fwP (F : Nat → Int) (k : Nat) (out : List Int) (x : Nat) : Nat → Int:=fun q => if (decide (0 ≤ F k) && decide ((q : Int) ∈ out.take x) && (decide (F q < 0) || decide (F k + 1 < F q))) = true then F k + 1 else F q
theorem fwP_zero (F : Nat → Int) (k : Nat) (out : List Int) : fwP F k out 0 = F:=by
 funext q
 unfold fwP
 rw [if_neg (by simp)]
theorem fwP_self (F : Nat → Int) (k : Nat) (out : List Int) (x : Nat) (h : ∀ y,y ∈ out → y < (k : Int)) : fwP F k out x k = F k:=by
 unfold fwP
 rw [if_neg]
 intro h1
 rw [Bool.and_eq_true,Bool.and_eq_true,decide_eq_true_eq,decide_eq_true_eq] at h1
 have:=h _ (List.mem_of_mem_take h1.1.2)
 omega
theorem fwP_low (F : Nat → Int) (k : Nat) (out : List Int) (x : Nat) (h : F k < 0) : fwP F k out x = F:=by
 funext q
 unfold fwP
 rw [if_neg (by simp;omega)]
theorem fwP_next (F : Nat → Int) (k : Nat) (out : List Int) (x m : Nat) (hx : x < out.length) (hm : out.getD x 0 = (m : Int)) (h0 : 0 ≤ F k) : fwP F k out (x + 1) = fun q => if q = m then (if fwP F k out x m < 0 ∨ F k + 1 < fwP F k out x m then F k + 1 else fwP F k out x m) else fwP F k out x q:=by
 have ht : out.take (x + 1) = out.take x ++ [(m : Int)]:=by rw [take_one9 out x hx 0,hm]
 funext q
 unfold fwP
 rw [ht,decide_eq_true h0]
 by_cases e : q = m
 ·subst e
  rw [if_pos rfl]
  by_cases e2 : (q : Int) ∈ out.take x
  ·simp only [Bool.true_and,List.mem_append,List.mem_singleton,or_true,decide_true,e2]
   by_cases e3 : (decide (F q < 0) || decide (F k + 1 < F q)) = true
   ·rw [if_pos e3,if_neg (by omega)]
   ·rw [if_neg e3]
    rw [Bool.or_eq_true,decide_eq_true_eq,decide_eq_true_eq] at e3
    rw [if_neg e3]
  ·simp only [Bool.true_and,List.mem_append,List.mem_singleton,or_true,decide_true,e2,decide_false,Bool.false_and,Bool.false_eq_true,if_false]
   by_cases e3 : (decide (F q < 0) || decide (F k + 1 < F q)) = true
   ·rw [if_pos e3]
    rw [Bool.or_eq_true,decide_eq_true_eq,decide_eq_true_eq] at e3
    rw [if_pos e3]
   ·rw [if_neg e3]
    rw [Bool.or_eq_true,decide_eq_true_eq,decide_eq_true_eq] at e3
    rw [if_neg e3]
 ·rw [if_neg e]
  have e2 : decide ((q : Int) ∈ out.take x ++ [(m : Int)]) = decide ((q : Int) ∈ out.take x):=by
   rw [decide_eq_decide,List.mem_append,List.mem_singleton]
   constructor
   ·rintro (h | h)
    ·exact h
    ·omega
   ·exact .inl
  rw [e2]
theorem fwP_all (s : Syst) (l : List Ev) (F : Nat → Int) (k : Nat) (out : List Int) (h : ∀ x,x ∈ out ↔ ∃ i : Nat,x = (i : Int) ∧ Tr.Eg s l i k) : fwP F k out out.length = fwS s l k F:=by
 funext q
 unfold fwP fwS
 have e : decide ((q : Int) ∈ out.take out.length) = @decide (Tr.Eg s l q k) (Tr.decE s l q k):=by
  rw [List.take_length]
  by_cases e2 : Tr.Eg s l q k
  ·rw [decide_eq_true ((h _).2 ⟨q,rfl,e2⟩),@decide_eq_true _ (Tr.decE s l q k) e2]
  ·rw [@decide_eq_false _ (Tr.decE s l q k) e2,decide_eq_false]
   intro h2
   obtain ⟨i,h3,h4⟩:=(h _).1 h2
   have : q = i:=by omega
   exact e2 (by rw [this];exact h4)
 rw [e]
set_option maxRecDepth 100000 in
set_option maxHeartbeats 40000000 in
theorem rtway (s : Syst) (pa : Option Addr) (pc : Nat) (ra : Option Addr) (rc : Nat) (la : Option Addr) (lc : Nat) (l : List Ev) (i j : Int) (w : World) (hs : SyI w s pa ra) (hl : EvI w la lc l) :
  Calls Try.prog 17 #[.agg #[.slice pa s.progs.length pc,.slice ra s.rooms.length rc,.int .i64 s.groups,.int .i64 s.locks,.int .i64 s.cells],.slice la l.length lc,.int .i64 i,.int .i64 j] w (fun e w' => (¬ (beE s l i j = 0 ∧ beA s l i j = true) → e = .returned (.tuple #[.slice none 0 0,.int .i64 (beE s l i j)])) ∧ (beE s l i j = 0 ∧ beA s l i j = true → ∃ a c,e = .returned (.tuple #[.slice a (wyD s l i.toNat j.toNat).length c,.int .i64 0]) ∧ NR w' a ((wyD s l i.toNat j.toNat).map (fun (x : Nat) => (x : Int)))) ∧ Below w.heap.size w w'):=by
 obtain ⟨POST,hP⟩ : ∃ Q : Ending → World → Prop,Q = fun e w' => (¬ (beE s l i j = 0 ∧ beA s l i j = true) → e = .returned (.tuple #[.slice none 0 0,.int .i64 (beE s l i j)])) ∧ (beE s l i j = 0 ∧ beA s l i j = true → ∃ a c,e = .returned (.tuple #[.slice a (wyD s l i.toNat j.toNat).length c,.int .i64 0]) ∧ NR w' a ((wyD s l i.toNat j.toNat).map (fun (x : Nat) => (x : Int)))) ∧ Below w.heap.size w w':=⟨_,rfl⟩
 have HBe : Hid (∀ W,Below w.heap.size w W → Calls Try.prog 15 #[.agg #[.slice pa s.progs.length pc,.slice ra s.rooms.length rc,.int .i64 s.groups,.int .i64 s.locks,.int .i64 s.cells],.slice la l.length lc,.int .i64 i,.int .i64 j] W fun e w' => e = .returned (.tuple #[.bool (beA s l i j),.int .i64 (beE s l i j)]) ∧ Below W.heap.size W w'):=fun W hW => rtbefore s pa pc ra rc la lc l i j W (hs.below hW) (hl.below hW)
 have HPn : Hid (¬ (beE s l i j = 0 ∧ beA s l i j = true) → ∀ W,Below w.heap.size w W → POST (.returned (.tuple #[.slice none 0 0,.int .i64 (beE s l i j)])) W):=fun h W hW => by
  rw [hP]
  exact ⟨fun _ => rfl,fun h2 => absurd h2 h,hW⟩
 have HPo : Hid (beE s l i j = 0 ∧ beA s l i j = true → ∀ W a c,NR W a ((wyD s l i.toNat j.toNat).map (fun (x : Nat) => (x : Int))) → Below w.heap.size w W → POST (.returned (.tuple #[.slice a (wyD s l i.toNat j.toNat).length c,.int .i64 0])) W):=fun h W a c h2 hW => by
  rw [hP]
  exact ⟨fun h3 => absurd h h3,fun _ => ⟨a,c,rfl,h2⟩,hW⟩
 rw [← hP]
 have HEw:=TW.hide hl
 have HSw:=TW.hide hs
 clear hP hs hl
 have hA : Below w.heap.size w (w.alloc (.cells #[.slice pa s.progs.length pc,.slice ra s.rooms.length rc,.int .i64 s.groups,.int .i64 s.locks,.int .i64 s.cells] 25)):=(Below.refl _ _).alloc (Nat.le_refl _) _
 have N1 : Hid ((w.alloc (.cells #[.slice pa s.progs.length pc,.slice ra s.rooms.length rc,.int .i64 s.groups,.int .i64 s.locks,.int .i64 s.cells] 25)).heap[w.heap.size]? = some (.cells #[.slice pa s.progs.length pc,.slice ra s.rooms.length rc,.int .i64 s.groups,.int .i64 s.locks,.int .i64 s.cells] 25 (0,0))):=heap_alloc_new w _
 have NB:=TW.hide hA
 clear hA
 go_enter Try.func17,Try.ntmps17
 refine wp_seq_k fun K hK => ?_
 have HK:=TW.hide hK
 clear hK
 go_wp2
 refine HK.out _ _ ?_
 clear HK K
 generalize w.alloc _ = X at *
 obtain ⟨s0,s1,s2,s3,s4⟩:=cellsY5 N1.out
 refine wp_seq_k fun K0 hK0 => ?_
 have HK0:=TW.hide hK0
 clear hK0
 go_wp2_with fail
 refine (HBe.out X NB.out).mono ?_
 rintro e1 W1 ⟨rfl,hb⟩
 have NB1 : Hid (Below w.heap.size w W1):=NB.out.trans (hb.mono NB.out.size)
 have NS:=TW.hide (blk_keep N1.out hb)
 have HWX : Hid (w.heap.size < W1.heap.size):=Nat.lt_of_lt_of_le (blk_lt N1.out) hb.size
 clear hb NB N1 s0 s1 s2 s3 s4 HBe
 go_wp2
 refine HK0.out _ _ ?_
 clear HK0
 by_cases he : beE s l i j = 0
 ·by_cases ha : beA s l i j = true
  ·rw [he,ha]
   obtain ⟨ho,hn,hg,hin⟩ : Ok s ∧ l.length ≤ 40000 ∧ Tr.Gd s l l.length ∧ (0 ≤ i ∧ i < (l.length : Int)) ∧ (0 ≤ j ∧ j < (l.length : Int)):=by
    unfold beE at he
    split at he
    ·rename_i hv
     have h2:=Tr.vR_ok (s:=s) (l:=l) hv
     refine ⟨h2.1,h2.2.1,h2.2.2.1,?_⟩
     split at he
     ·rename_i h3;exact h3
     ·cases he
    ·rename_i hv;exact absurd he hv
   obtain ⟨i,rfl⟩ : ∃ k : Nat,i = (k : Int):=⟨i.toNat,by omega⟩
   obtain ⟨j,rfl⟩ : ∃ k : Nat,j = (k : Int):=⟨j.toNat,by omega⟩
   have hi : i < l.length:=by omega
   have hj : j < l.length:=by omega
   have HBf : Hid (Tr.Bf s l i j):=by
    show Tr.Bf s l i j
    rw [← bfB_iff s l i j hi hj]
    unfold beA at ha
    rw [Bool.and_eq_true] at ha
    exact ha.2
   have HP2:=TW.hide (HPo.out ⟨he,ha⟩)
   have HIn : Hid (∀ (q : Nat) W,Below w.heap.size w W → q < l.length → Calls Try.prog 22 #[.agg #[.slice pa s.progs.length pc,.slice ra s.rooms.length rc,.int .i64 s.groups,.int .i64 s.locks,.int .i64 s.cells],.slice la l.length lc,.int .i64 (q : Int)] W fun e w' => (∃ (v : Value) (out : List Int),e = .returned v ∧ w'.ownsRow W.heap.size 3 1 v out.length (out.map (Value.int .i64)) ∧ out.Pairwise (· < ·) ∧ (∀ x,x ∈ out ↔ ∃ i : Nat,x = (i : Int) ∧ Tr.Eg s l i q) ∧ out.length ≤ 40001) ∧ Below W.heap.size W w'):=fun q W hW hq => (rinto s pa pc ra rc la lc l q W (HSw.out.below hW) (HEw.out.below hW) ho hg hn hq).mono fun e w' h => h
   rw [Int.toNat_natCast,Int.toNat_natCast] at HP2
   clear he ha hin HPo HPn ho hg HEw HSw
   obtain ⟨N,hN⟩ : ∃ N,l.length = N:=⟨_,rfl⟩
   rw [hN] at HIn hn hi hj ⊢
   have HIi : Hid (i < N):=hi
   have HJj : Hid (j < N):=hj
   clear hN
   obtain ⟨i3,hi3,hz30,hz31,hz32⟩:=info_parts' intinfo
   obtain ⟨i4,hi4,hz40,hz41,hz42⟩:=info_parts' slcinfo6
   obtain ⟨X,hX⟩ : ∃ X,X = W1:=⟨_,rfl⟩
   rw [← hX] at NB1 NS HWX
   subst hX
   refine wp_seq_k fun K1 hK1 => ?_
   have HK1:=TW.hide hK1
   clear hK1
   go_wp2
   refine HK1.out _ _ ?_
   clear HK1
   refine wp_seq_k fun K1 hK1 => ?_
   have HK1:=TW.hide hK1
   clear hK1
   go_wp2_with (at_make;refine wpList_make_full _ rfl _ _ 23 rfl X.heap.size 3 i3 (.int .i64 0) 1 Try.underlying23 hi3 hz30 hz31 _ _ _ _ N rfl rfl rfl rfl (by rw [hz32];omega) (by unfold maxLen;omega) (Nat.le_refl _) ?_;(intro w2 hown hgrow);(rw [made_rep _ rfl] at hown);have HO2:=TW.hide hown;have HG2:=TW.hide hgrow;clear hown hgrow)
   refine HK1.out _ _ ?_
   clear HK1
   have HB2 : Hid (Below X.heap.size X w2):=(Below.refl X.heap.size X).grown HG2.out (Nat.le_refl _) (by intro k h;cases h)
   have NB2 : Hid (Below w.heap.size w w2):=NB1.out.trans (HB2.out.mono NB1.out.size)
   have NS2:=TW.hide (blk_keep NS.out HB2.out)
   obtain ⟨b0,hb0⟩ : ∃ b0,X.heap.size = b0:=⟨_,rfl⟩
   have HF0 : Hid (w2.ownsRow X.heap.size 3 1 (.slice (some ⟨X.heap.size,0,none⟩) N N) N (((List.range N).map (fun q => if q < 0 then (-1 : Int) else 0)).map (Value.int .i64))):=by
    have e : List.replicate N (Value.int .i64 0) = ((List.range N).map (fun q => if q < 0 then (-1 : Int) else 0)).map (Value.int .i64):=by
     rw [List.map_map,List.map_congr_left (g:=fun _ => Value.int .i64 0) (fun q _ => by simp),List.map_const',List.length_range]
    show World.ownsRow _ _ _ _ _ _ _
    rw [← e]
    exact HO2.out
   have HBX : Hid (w.heap.size < b0):=by show _ < _;rw [← hb0];exact HWX.out
   have HXb:=TW.hide hb0
   clear HO2 HG2 HB2 NS NB1 HWX hb0
   simp only [HXb.out] at HF0 ⊢
   obtain ⟨B,hB⟩ : ∃ B,w2.heap.size = B:=⟨_,rfl⟩
   have HBB : Hid (b0 < B):=by show _ < _;rw [← hB];exact own_ltM HF0.out (by omega)
   have HBs : Hid (B ≤ w2.heap.size):=Nat.le_of_eq hB.symm
   have HL0:=TW.hide (LL.nil0 w2 B)
   have HR0 : Hid (RowsE s l 0 (fun _ => [])):=fun q hq => absurd hq (by omega)
   clear hB
   refine wp_seq_k fun K1 hK1 => ?_
   have HK1:=TW.hide hK1
   clear hK1
   go_wp2
   refine HK1.out _ _ ?_
   clear HK1
   refine wp_seq_k fun Kl hKl => ?_
   have HKl:=TW.hide hKl
   clear hKl
   go_wp2
   go_loopw [13,14] (fun nv kv wr => ∃ (k : Nat) (ta : Option Addr) (tc : Nat) (vs : Nat → Value) (cs : Nat → List Int),k ≤ N ∧ kv = .int .i64 (k : Int) ∧ nv = .slice ta k tc ∧ Hid (wr.ownsRow b0 3 1 (.slice (some ⟨b0,0,none⟩) N N) N (((List.range N).map (fun q => if q < k then (-1 : Int) else 0)).map (Value.int .i64))) ∧ Hid (LL wr B k (.slice ta k tc) vs vs cs) ∧ Hid (RowsE s l k cs) ∧ Hid (wr.heap[w.heap.size]? = some (.cells #[.slice pa s.progs.length pc,.slice ra s.rooms.length rc,.int .i64 s.groups,.int .i64 s.locks,.int .i64 s.cells] 25 (0,0))) ∧ Hid (Below w.heap.size w wr) ∧ Hid (B ≤ wr.heap.size)) (fun nv kv wr => N - (intOf kv).toNat)
   case atStart => exact ⟨0,none,0,_,_,Nat.zero_le _,rfl,rfl,HF0,HL0,HR0,NS2,NB2,HBs⟩
   case round =>
    clear HF0 HL0 HR0 NS2 NB2 HBs
    obtain ⟨k,ta,tc,vs,cs,hk,rfl,rfl,HF,HL,HR,NS,NB,HBs⟩:=hrel
    by_cases hlt : k < N
    ·have qk1 : (k : Int) < (N : Int):=by omega
     have qk0 : (0 : Int) ≤ (k : Int):=by omega
     have hk41 : k + 1 ≤ 40000:=by omega
     have HLT:=TW.hide hlt
     have cz:=(own_at9 HF.out k (by simpa using hlt)).1
     have fz:=(own_at9 HF.out k (by simpa using hlt)).2
     obtain ⟨wc,rfl⟩ : ∃ x,x = wr:=⟨_,rfl⟩
     have HF1 : Hid ((wc.setCell ⟨b0,k,none⟩ (.int .i64 (-1))).ownsRow b0 3 1 (.slice (some ⟨b0,0,none⟩) N N) N (((List.range N).map (fun q => if q < k + 1 then (-1 : Int) else 0)).map (Value.int .i64))):=by
      have h9:=own_set9 HF.out k (-1)
      rw [zz_set] at h9
      have e : (fun q => if q = k then (-1 : Int) else (fun q => if q < k then (-1 : Int) else 0) q) = (fun q => if q < k + 1 then (-1 : Int) else 0):=by
       funext q
       dsimp only
       by_cases e : q = k
       ·rw [if_pos e,if_pos (by omega)]
       ·rw [if_neg e]
        by_cases e2 : q < k
        ·rw [if_pos e2,if_pos (by omega)]
        ·rw [if_neg e2,if_neg (by omega)]
      rw [e] at h9
      exact h9
     have HL1:=TW.hide (HL.out.setLow b0 k HBB.out (.int .i64 (-1)))
     have NS1 : Hid ((wc.setCell ⟨b0,k,none⟩ (.int .i64 (-1))).heap[w.heap.size]? = some (.cells #[.slice pa s.progs.length pc,.slice ra s.rooms.length rc,.int .i64 s.groups,.int .i64 s.locks,.int .i64 s.cells] 25 (0,0))):=by
      show _ = _
      rw [Below.heap_setCell _ _ _ _ (by have:=HBX.out;show _ ≠ _;simp;omega)]
      exact NS.out
     have NB1 : Hid (Below w.heap.size w (wc.setCell ⟨b0,k,none⟩ (.int .i64 (-1)))):=NB.out.setCell (p:=⟨b0,k,none⟩) (Nat.le_of_lt HBX.out) (.int .i64 (-1))
     have HBs1 : Hid (B ≤ (wc.setCell ⟨b0,k,none⟩ (.int .i64 (-1))).heap.size):=Nat.le_trans HBs.out ((Below.refl b0 wc).setCell (p:=⟨b0,k,none⟩) (Nat.le_refl _) (.int .i64 (-1))).size
     clear HF HL NS NB HBs hk
     refine wp_seq_k fun K1 hK1 => ?_
     have HK1:=TW.hide hK1
     clear hK1
     go_wp2
     refine HK1.out _ _ ?_
     clear HK1
     refine wp_seq_k fun Kb hKb => ?_
     have HKb:=TW.hide hKb
     clear hKb
     refine wp_block ?_
     refine wp_seq_k fun K1 hK1 => ?_
     have HK1:=TW.hide hK1
     clear hK1
     go_wp2
     refine HK1.out _ _ ?_
     clear HK1 cz fz hlt
     generalize World.setCell _ _ _ = wz at *
     obtain ⟨s0,s1,s2,s3,s4⟩:=cellsY5 NS1.out
     go_wp2_with fail
     refine (HIn.out k wz NB1.out HLT.out).mono ?_
     rintro e3 W3 ⟨⟨vo,out,rfl,how,_,hmem,hol⟩,hb⟩
     have HL3:=TW.hide (HL1.out.newR k HBs1.out hb out vo how)
     have HF3:=TW.hide (own_belowI HF1.out hb)
     have NS3:=TW.hide (blk_keep NS1.out hb)
     have NB3 : Hid (Below w.heap.size w W3):=NB1.out.trans (hb.mono NB1.out.size)
     have HBs3 : Hid (B ≤ W3.heap.size):=Nat.le_trans HBs1.out hb.size
     have HRn:=TW.hide (HR.out.next out hmem hol)
     obtain ⟨oa,oc,rfl,_⟩:=nr_own9 how
     obtain ⟨L,hL_⟩ : ∃ L,out.length = L:=⟨_,rfl⟩
     rw [hL_] at HL3 ⊢
     clear how hb hmem hol hL_ HL1 HF1 NS1 NB1 HBs1 HR s0 s1 s2 s3 s4
     have hAl_ : Below W3.heap.size W3 (W3.alloc (.cells #[.slice oa L oc] 23)):=(Below.refl _ _).alloc (Nat.le_refl _) _
     have HLa:=TW.hide (HL3.out.below hAl_)
     have HFa:=TW.hide (own_belowI HF3.out hAl_)
     have NSa:=TW.hide (blk_keep NS3.out hAl_)
     have NBa : Hid (Below w.heap.size w (W3.alloc (.cells #[.slice oa L oc] 23))):=NB3.out.trans (hAl_.mono NB3.out.size)
     have HSa : Hid (B ≤ (W3.alloc (.cells #[.slice oa L oc] 23)).heap.size):=Nat.le_trans HBs3.out hAl_.size
     have HOa : Hid ((W3.alloc (.cells #[.slice oa L oc] 23)).ownsRow B 23 1 (.slice ta k tc) k (rwI k vs)):=HLa.out.fam.own none
     have HF5 : Hid (∀ v5 w5,w5.ownsRow B 23 1 v5 (k + 1) (rwI k vs ++ [.slice oa L oc]) → (W3.alloc (.cells #[.slice oa L oc] 23)).grownBy w5 (Value.slice ta k tc).ownBlock → (v5.ownBlock = (Value.slice ta k tc).ownBlock ∨ v5.ownBlock = some (W3.alloc (.cells #[.slice oa L oc] 23)).heap.size) → (∃ va_ vc_,v5 = .slice va_ (k + 1) vc_) ∧ LL w5 B (k + 1) v5 (vup vs k (.slice oa L oc)) (vup vs k (.slice oa L oc)) (put cs k out) ∧ (w5.ownsRow b0 3 1 (.slice (some ⟨b0,0,none⟩) N N) N (((List.range N).map (fun q => if q < k + 1 then (-1 : Int) else 0)).map (Value.int .i64))) ∧ w5.heap[w.heap.size]? = some (.cells #[.slice pa s.progs.length pc,.slice ra s.rooms.length rc,.int .i64 s.groups,.int .i64 s.locks,.int .i64 s.cells] 25 (0,0)) ∧ Below w.heap.size w w5 ∧ B ≤ w5.heap.size):=fun v5 w5 h1 h2 h3 =>
      ⟨own_openE h1,HLa.out.appH _ v5 h1 h2 h3,own_keepG HFa.out HOa.out (by decide) h2,own_keepT NSa.out HOa.out (by decide) h2,NBa.out.grown h2 NBa.out.size (fun b e => Nat.le_trans (Nat.le_of_lt (Nat.lt_trans HBX.out HBB.out)) (own_blkI HOa.out b e)),Nat.le_trans HSa.out ((Below.refl B _).grown h2 HSa.out (fun b e => own_blkI HOa.out b e)).size⟩
     clear hAl_ HLa HFa NSa NBa HL3 HF3 NS3 NB3 HBs3
     go_wp2_with (at_builtin;refine wpList_append_own_at _ rfl _ _ 38 rfl B 23 i4 (.slice none 0 0) 1 24 Try.underlying38 hi4 hz40 hz41 hz42 rfl (by decide) _ k (rwI k vs) rfl HOa.out ⟨W3.heap.size,0,none⟩ 1 1 [.slice oa L oc] rfl rfl (cell_one_new _ _ _) (by simp [Value.oneCell']) (by unfold maxLen;omega) (by omega) HSa.out ?_;(intro v5 w5 h51 h52 _ h53);obtain ⟨⟨va_,vc_,rfl⟩,hm5,hn5,ho5,hp5,hq5⟩:=HF5.out v5 w5 h51 h52 h53;have HL8:=TW.hide hm5;have HF8:=TW.hide hn5;have NS8:=TW.hide ho5;have NB8:=TW.hide hp5;have HB8:=TW.hide hq5;clear h51 h52 h53 hm5 hn5 ho5 hp5 hq5 HF5)
     refine HKb.out _ _ ?_
     go_wp2
     go_roundw
     case rel => exact ⟨k + 1,_,_,_,_,HLT.out,by go_num,rfl,HF8,HL8,HRn,NS8,NB8,HB8⟩
     case measure => simp [intOf];have:=HLT.out;omega
    ·obtain rfl : N = k:=by omega
     have qk : ¬ (N : Int) < (N : Int):=by omega
     clear hlt hk
     go_wp2
     refine HKl.out _ _ ?_
     clear HKl
     obtain ⟨b4,hcap,eh,_,_,_⟩:=HL.out.hAt i HIi.out
     injection eh with eh1 _ eh3
     subst eh1 eh3
     have cz:=(own_at9 HF.out j (by simpa using HJj.out)).1
     have fz:=(own_at9 HF.out j (by simpa using HJj.out)).2
     have qj0 : (0 : Int) ≤ (j : Int):=by omega
     have qj1 : (j : Int) < (N : Int):=by omega
     have HF1 : Hid ((wr.setCell ⟨b0,j,none⟩ (.int .i64 0)).ownsRow b0 3 1 (.slice (some ⟨b0,0,none⟩) N N) N (((List.range N).map (fw s l j 0)).map (Value.int .i64))):=by
      have h9:=own_set9 HF.out j 0
      rw [zz_set] at h9
      have e : (List.range N).map (fun q => if q = j then (0 : Int) else (fun q => if q < N then (-1 : Int) else 0) q) = (List.range N).map (fw s l j 0):=by
       apply List.map_congr_left
       intro q hq
       have:=List.mem_range.1 hq
       show _ = if q = j then (0 : Int) else -1
       dsimp only
       rw [if_pos this]
      rw [e] at h9
      exact h9
     have HL1:=TW.hide (HL.out.setLow b0 j HBB.out (.int .i64 0))
     have NB1 : Hid (Below w.heap.size w (wr.setCell ⟨b0,j,none⟩ (.int .i64 0))):=NB.out.setCell (p:=⟨b0,j,none⟩) (Nat.le_of_lt HBX.out) (.int .i64 0)
     clear HF HL NB NS HBs
     refine wp_seq_k fun K1 hK1 => ?_
     have HK1:=TW.hide hK1
     clear hK1
     go_wp2
     refine HK1.out _ _ ?_
     clear HK1
     clear cz fz
     generalize World.setCell _ _ _ = wz at *
     refine wp_seq_k fun Kl hKl => ?_
     have HKl:=TW.hide hKl
     clear hKl
     go_wp2
     go_loopw [15] (fun kv wr => ∃ (c : Nat),c ≤ j - i + 1 ∧ kv = .int .i64 ((j : Int) - (c : Int)) ∧ Hid (wr.ownsRow b0 3 1 (.slice (some ⟨b0,0,none⟩) N N) N (((List.range N).map (fw s l j c)).map (Value.int .i64))) ∧ Hid (LL wr B N (.slice (some ⟨b4,0,none⟩) N tc) vs vs cs) ∧ Hid (Below w.heap.size w wr)) (fun kv wr => (intOf kv - (i : Int) + 1).toNat)
     case atStart => exact ⟨0,Nat.zero_le _,by simp,HF1,HL1,NB1⟩
     case round =>
      clear HF1 HL1 NB1 qj0 qj1
      obtain ⟨c,hc,rfl,HF,HL,NB⟩:=hrel
      by_cases hlt : c ≤ j - i
      ·have hij:=Tr.Bf.lt HBf.out
       obtain ⟨k,hk⟩ : ∃ k,k = j - c:=⟨_,rfl⟩
       have ek : (j : Int) - (c : Int) = (k : Int):=by omega
       rw [ek]
       have HKe : Hid (k + c = j):=by show _ = _;omega
       have HKi : Hid (i ≤ k):=by show _ ≤ _;omega
       have HKn : Hid (k < N):=by show _ < _;omega
       have HFw : Hid (fw s l j (c + 1) = fwS s l k (fw s l j c)):=by show _ = _;rw [hk];rfl
       have HFb:=TW.hide (fw_bd s l j c)
       have hcN : c ≤ 40000:=by omega
       have qk0 : (0 : Int) ≤ (k : Int):=by omega
       have qk1 : (k : Int) < (N : Int):=by omega
       have qki : (i : Int) ≤ (k : Int):=by omega
       have HRk:=TW.hide (HR.out k HKn.out)
       clear hk ek hij hlt hc
       obtain ⟨F,hF⟩ : ∃ F,fw s l j c = F:=⟨_,rfl⟩
       rw [hF] at HFw HFb HF
       clear hF
       obtain ⟨fk,hfk⟩ : ∃ fk,F k = fk:=⟨_,rfl⟩
       have HFk:=TW.hide hfk
       have hfk1 : fk ≤ 40000:=by have:=(HFb.out k).2;omega
       have hfk2 : -1 ≤ fk:=by have:=(HFb.out k).1;omega
       clear hfk
       obtain ⟨oa,oc,eo,_⟩:=HL.out.rIs k
       obtain ⟨out,hout⟩ : ∃ out,cs k = out:=⟨_,rfl⟩
       have HOut:=TW.hide hout
       rw [hout] at eo HRk
       obtain ⟨L,hL_⟩ : ∃ L,out.length = L:=⟨_,rfl⟩
       have HLo:=TW.hide hL_
       rw [hL_] at eo HRk
       have EO:=TW.hide eo
       have hL40 : L ≤ 40001:=HRk.out.2
       have HLow : Hid (∀ y,y ∈ out → y < (k : Int)):=fun y hy => by
        obtain ⟨q,rfl,h2⟩:=(HRk.out.1 y).1 hy
        have:=h2.lt
        omega
       have HFz : Hid (wr.ownsRow b0 3 1 (.slice (some ⟨b0,0,none⟩) N N) N (((List.range N).map (fwP F k out 0)).map (Value.int .i64))):=by rw [fwP_zero];exact HF
       clear hout hL_ eo HF
       obtain ⟨wa,rfl⟩ : ∃ x,x = wr:=⟨_,rfl⟩
       refine wp_seq_k fun K1 hK1 => ?_
       have HK1:=TW.hide hK1
       clear hK1
       go_wp2
       refine HK1.out _ _ ?_
       clear HK1
       refine wp_seq_k fun Kb hKb => ?_
       have HKb:=TW.hide hKb
       clear hKb
       refine wp_block ?_
       go_wp2
       go_loopw [16] (fun xv wr => ∃ (x : Nat),x ≤ L ∧ xv = .int .i64 (x : Int) ∧ Hid (wr.ownsRow b0 3 1 (.slice (some ⟨b0,0,none⟩) N N) N (((List.range N).map (fwP F k out x)).map (Value.int .i64))) ∧ Hid (LL wr B N (.slice (some ⟨b4,0,none⟩) N tc) vs vs cs) ∧ Hid (Below w.heap.size w wr)) (fun xv wr => L - (intOf xv).toNat)
       case atStart => exact ⟨0,Nat.zero_le _,rfl,HFz,HL,NB⟩
       case round =>
        clear HFz HL NB
        obtain ⟨x,hx,rfl,HF,HL,NB⟩:=hrel
        have yk:=(own_at9 HF.out k (by simpa using HKn.out)).1
        rw [rng_getD _ N k HKn.out,fwP_self F k out x HLow.out,HFk.out] at yk
        obtain ⟨b4',hcap',eh,_,yh,_⟩:=HL.out.hAt k HKn.out
        injection eh with eh1 _ eh3
        injection eh1 with eh1
        injection eh1 with eh1
        subst eh1 eh3
        rw [EO.out] at yh
        by_cases hneg : fk < 0
        ·have qn : ¬ (0 : Int) ≤ fk:=by omega
         have HF5 : Hid (wr.ownsRow b0 3 1 (.slice (some ⟨b0,0,none⟩) N N) N (((List.range N).map (fw s l j (c + 1))).map (Value.int .i64))):=by
          rw [HFw.out,← fwP_all s l F k out HRk.out.1,fwP_low _ _ _ _ (by rw [HFk.out];exact hneg),← fwP_low F k out x (by rw [HFk.out];exact hneg)]
          exact HF
         clear HF hx
         go_wp2
         refine HKb.out _ _ ?_
         go_wp2
         go_roundw
         case rel => exact ⟨c + 1,by have:=HKe.out;have:=HKi.out;omega,by congr 1;have:=HKe.out;omega,HF5,HL,NB⟩
         case measure => simp [intOf];have:=HKi.out;omega
        ·have qn : (0 : Int) ≤ fk:=by omega
         by_cases hlt : x < L
         ·have HIo : Hid (x < out.length):=by show _ < _;rw [HLo.out];exact hlt
          have qx1 : (x : Int) < (L : Int):=by omega
          have qx0 : (0 : Int) ≤ (x : Int):=by omega
          have hx41 : x + 1 ≤ 40001:=by omega
          have HIL:=TW.hide hlt
          obtain ⟨m,hm,heg⟩:=(HRk.out.1 (out.getD x 0)).1 (by rw [List.getD_eq_getElem?_getD,List.getElem?_eq_getElem HIo.out];exact List.getElem_mem _)
          have HMk : Hid (m < k):=heg.lt
          have HMn : Hid (m < N):=Nat.lt_trans heg.lt HKn.out
          have HNx:=TW.hide (fwP_next F k out x m HIo.out hm (by rw [HFk.out];exact qn))
          rw [HFk.out] at HNx
          have hro : World.ownsRow wr B 3 1 (vs k) (cs k).length ((cs k).map (Value.int .i64)):=HL.out.fam.own (some k)
          rw [HOut.out,HLo.out,EO.out] at hro
          obtain ⟨oa_,oc_,eo,hor⟩:=own_read1 0 hro HLo.out
          injection eo with eo1 _ eo3
          subst eo1 eo3
          rcases hor with h | ⟨b2,rfl,_⟩
          ·have:=HIo.out;rw [h] at this;simp at this
          have ye:=(own_at9 hro x HIo.out).1
          rw [hm] at ye
          have ym:=(own_at9 HF.out m (by simpa using HMn.out)).1
          rw [rng_getD _ N m HMn.out] at ym
          have fz:=(own_at9 HF.out m (by simpa using HMn.out)).2
          obtain ⟨fm,hfm⟩ : ∃ fm,fwP F k out x m = fm:=⟨_,rfl⟩
          rw [hfm] at ym HNx
          have qm0 : (0 : Int) ≤ (m : Int):=by omega
          have qm1 : (m : Int) < (N : Int):=by have:=HMn.out;omega
          have HSt : Hid (∀ Y,Hid (Y.ownsRow b0 3 1 (.slice (some ⟨b0,0,none⟩) N N) N (((List.range N).map (fwP F k out x)).map (Value.int .i64))) → Hid (LL Y B N (.slice (some ⟨b4,0,none⟩) N tc) vs vs cs) → Hid (Below w.heap.size w Y) → (fm < 0 ∨ fk + 1 < fm) → Hid ((Y.setCell ⟨b0,m,none⟩ (.int .i64 (fk + 1))).ownsRow b0 3 1 (.slice (some ⟨b0,0,none⟩) N N) N (((List.range N).map (fwP F k out (x + 1))).map (Value.int .i64))) ∧ Hid (LL (Y.setCell ⟨b0,m,none⟩ (.int .i64 (fk + 1))) B N (.slice (some ⟨b4,0,none⟩) N tc) vs vs cs) ∧ Hid (Below w.heap.size w (Y.setCell ⟨b0,m,none⟩ (.int .i64 (fk + 1))))):=fun Y h1 h2 h3 h4 => by
           refine ⟨?_,TW.hide (h2.out.setLow b0 m HBB.out _),h3.out.setCell (p:=⟨b0,m,none⟩) (Nat.le_of_lt HBX.out) _⟩
           have h9:=own_set9 h1.out m (fk + 1)
           rw [zz_set] at h9
           rw [HNx.out,if_pos h4]
           exact h9
          have HSn : Hid (¬ (fm < 0 ∨ fk + 1 < fm) → fwP F k out (x + 1) = fwP F k out x):=fun h4 => by
           rw [HNx.out,if_neg h4]
           funext q
           by_cases e : q = m
           ·rw [if_pos e,e,hfm]
           ·rw [if_neg e]
          clear hfm hm heg hro hlt hx HNx hneg
          obtain ⟨wc,rfl⟩ : ∃ x,x = wr:=⟨_,rfl⟩
          refine wp_seq_k fun K1 hK1 => ?_
          have HK1:=TW.hide hK1
          clear hK1
          go_wp2
          refine HK1.out _ _ ?_
          clear HK1
          refine wp_seq_k fun Kb2 hKb2 => ?_
          have HKb2:=TW.hide hKb2
          clear hKb2
          refine wp_block ?_
          refine wp_seq_k fun K8 hK8 => ?_
          have HK8:=TW.hide hK8
          clear hK8
          go_wp2
          refine HK8.out _ _ ?_
          clear HK8
          refine wp_seq_k fun K9 hK9 => ?_
          have HK9:=TW.hide hK9
          clear hK9
          by_cases h1 : fm < 0
          ·go_wp2
           go_quiet (fail)
           go_wp2
           refine HK9.out _ _ ?_
           clear HK9
           have hq : Below wc.heap.size wc (wc.drewN nq):=below_drewN (Below.refl _ _) _
           have HF2:=TW.hide (own_belowI HF.out hq)
           have HL2:=TW.hide (HL.out.below hq)
           have NB2 : Hid (Below w.heap.size w (wc.drewN nq)):=NB.out.trans (hq.mono NB.out.size)
           have yk:=keepC hq yk
           have ym:=keepC hq ym
           have fz:=(own_at9 HF2.out m (by simpa using HMn.out)).2
           obtain ⟨HF9,HL9,NB9⟩:=HSt.out _ HF2 HL2 NB2 (.inl h1)
           clear hq HF HL NB HSt HSn HF2 HL2 NB2
           generalize wc.drewN nq = wd at *
           go_wp2
           refine HKb2.out _ _ ?_
           go_wp2
           go_roundw
           case rel => exact ⟨x + 1,HIL.out,by go_num,HF9,HL9,NB9⟩
           case measure => simp [intOf];have:=HIL.out;omega
          ·have kw : IntKind.i64.wrap (fk + 1) = fk + 1:=by rw [IntKind.wrap_i64];omega
           by_cases h2 : fk + 1 < fm
           ·have kd : decide (fk + 1 < fm) = true:=decide_eq_true h2
            go_wp2
            go_quiet (fail)
            go_wp2
            refine HK9.out _ _ ?_
            clear HK9
            have hq : Below wc.heap.size wc (wc.drewN nq):=below_drewN (Below.refl _ _) _
            have HF2:=TW.hide (own_belowI HF.out hq)
            have HL2:=TW.hide (HL.out.below hq)
            have NB2 : Hid (Below w.heap.size w (wc.drewN nq)):=NB.out.trans (hq.mono NB.out.size)
            have yk:=keepC hq yk
            have ym:=keepC hq ym
            have fz:=(own_at9 HF2.out m (by simpa using HMn.out)).2
            obtain ⟨HF9,HL9,NB9⟩:=HSt.out _ HF2 HL2 NB2 (.inr h2)
            clear hq HF HL NB HSt HSn HF2 HL2 NB2
            generalize wc.drewN nq = wd at *
            go_wp2
            refine HKb2.out _ _ ?_
            go_wp2
            go_roundw
            case rel => exact ⟨x + 1,HIL.out,by go_num,HF9,HL9,NB9⟩
            case measure => simp [intOf];have:=HIL.out;omega
           ·have kd : decide (fk + 1 < fm) = false:=decide_eq_false h2
            go_wp2
            go_quiet (fail)
            go_wp2
            refine HK9.out _ _ ?_
            clear HK9
            have hq : Below wc.heap.size wc (wc.drewN nq):=below_drewN (Below.refl _ _) _
            have HF2:=TW.hide (own_belowI HF.out hq)
            have HL2:=TW.hide (HL.out.below hq)
            have NB2 : Hid (Below w.heap.size w (wc.drewN nq)):=NB.out.trans (hq.mono NB.out.size)
            have yk:=keepC hq yk
            have ym:=keepC hq ym
            have HF9 : Hid ((wc.drewN nq).ownsRow b0 3 1 (.slice (some ⟨b0,0,none⟩) N N) N (((List.range N).map (fwP F k out (x + 1))).map (Value.int .i64))):=by rw [HSn.out (by omega)];exact HF2
            have HL9:=HL2
            have NB9:=NB2
            clear hq HF HL NB HSt HSn HF2 HL2 NB2
            generalize wc.drewN nq = wd at *
            go_wp2
            refine HKb2.out _ _ ?_
            go_wp2
            go_roundw
            case rel => exact ⟨x + 1,HIL.out,by go_num,HF9,HL9,NB9⟩
            case measure => simp [intOf];have:=HIL.out;omega
         ·obtain rfl : L = x:=by omega
          have qx : ¬ (L : Int) < (L : Int):=by omega
          have HF5 : Hid (wr.ownsRow b0 3 1 (.slice (some ⟨b0,0,none⟩) N N) N (((List.range N).map (fw s l j (c + 1))).map (Value.int .i64))):=by
           rw [HFw.out,← fwP_all s l F k out HRk.out.1,HLo.out]
           exact HF
          clear HF hx hneg
          go_wp2
          refine HKb.out _ _ ?_
          go_wp2
          go_roundw
          case rel => exact ⟨c + 1,by have:=HKe.out;have:=HKi.out;omega,by congr 1;have:=HKe.out;omega,HF5,HL,NB⟩
          case measure => simp [intOf];have:=HKi.out;omega
      ·have hij:=Tr.Bf.lt HBf.out
       obtain rfl : c = j - i + 1:=by omega
       have HFE : Hid (wr.ownsRow b0 3 1 (.slice (some ⟨b0,0,none⟩) N N) N (((List.range N).map (fwE s l i j)).map (Value.int .i64))):=HF.out
       have kx : ¬ (i : Int) ≤ (j : Int) - ((j - i + 1 : Nat) : Int):=by omega
       clear HF hlt hc
       obtain ⟨vz,hvz⟩ : ∃ vz,(j : Int) - ((j - i + 1 : Nat) : Int) = vz:=⟨_,rfl⟩
       rw [hvz] at kx ⊢
       clear hvz
       go_wp2
       refine HKl.out _ _ ?_
       clear HKl
       obtain ⟨W0,hW0⟩ : ∃ W0,W0 = wr:=⟨_,rfl⟩
       rw [← hW0] at HFE HL NB ⊢
       clear hW0
       have HO0 : Hid (World.ownsRow (W0.alloc (.cells #[.int .i64 (i : Int)] 3)) W0.heap.size 3 1 (.slice (some ⟨W0.heap.size,0,none⟩) 1 1) 1 (([i] : List Nat).map (fun (x : Nat) => Value.int .i64 (x : Int)))):=by
        refine ⟨rfl,.inr ⟨W0.heap.size,1,#[.int .i64 (i : Int)],rfl,Nat.le_refl _,heap_alloc_new _ _,Nat.le_refl _,by unfold maxLen;omega,rfl,rfl⟩⟩
       have HB0 : Hid (Below W0.heap.size W0 (W0.alloc (.cells #[.int .i64 (i : Int)] 3))):=(Below.refl _ _).alloc (Nat.le_refl _) _
       have HW0 : Hid (wyD s l i j = [i] ++ wyF s l i j (j + 1) i):=rfl
       have HE0 : Hid (0 ≤ fwE s l i j i ∧ fwE s l i j i ≤ ((j + 1 : Nat) : Int)):=by
        have h1:=fw_reach s l i j i HBf.out (Nat.le_refl _)
        have h2:=(fw_bd s l j (j - i + 1) i).2
        show 0 ≤ fw s l j (j - i + 1) i ∧ fw s l j (j - i + 1) i ≤ _
        omega
       refine wp_seq_k fun K1 hK1 => ?_
       have HK1:=TW.hide hK1
       clear hK1
       go_wp2
       refine HK1.out _ _ ?_
       clear HK1
       refine wp_seq_k fun Kt hKt => ?_
       have HKt:=TW.hide hKt
       clear hKt
       go_wp2
       go_loopw [18,19] (fun ov av wr => ∃ (m n : Nat) (p : List Nat) (pa : Option Addr) (pc : Nat),i ≤ m ∧ m ≤ j ∧ av = .int .i64 (m : Int) ∧ ov = .slice pa p.length pc ∧ Hid (wyD s l i j = p ++ wyF s l i j n m) ∧ Hid (0 ≤ fwE s l i j m ∧ fwE s l i j m ≤ (n : Int)) ∧ Hid (wr.ownsRow W0.heap.size 3 1 (.slice pa p.length pc) p.length (p.map (fun (x : Nat) => Value.int .i64 (x : Int)))) ∧ Hid (p.length ≤ m + 1) ∧ Hid (Below W0.heap.size W0 wr)) (fun ov av wr => (fwE s l i j (intOf av).toNat).toNat)
       case atStart => exact ⟨i,j + 1,[i],_,_,Nat.le_refl _,by omega,rfl,rfl,HW0,HE0,HO0,TW.hide (show 1 ≤ i + 1 by omega),HB0⟩
       case round =>
        clear HO0 HB0 HW0 HE0
        obtain ⟨m,n,p,pa_,pc_,him,hmj,rfl,rfl,HWy,HE,HO,HPl,HB⟩:=hrel
        by_cases hmm : m = j
        ·subst hmm
         have hw : wyD s l i m = p:=by
          rw [HWy.out]
          cases n with
          | zero => exact List.append_nil p
          | succ n => rw [show wyF s l i m (n + 1) m = [] from if_pos rfl,List.append_nil]
         have hN9 : NR wr pa_ ((wyD s l i m).map (fun (x : Nat) => (x : Int))):=by
          have h1 : wr.ownsRow W0.heap.size 3 1 (.slice pa_ p.length pc_) (p.map (fun (x : Nat) => (x : Int))).length ((p.map (fun (x : Nat) => (x : Int))).map (Value.int .i64)):=by
           rw [List.length_map,List.map_map]
           exact HO.out
          obtain ⟨a9,c9,e9,h9⟩:=nr_own9 h1
          injection e9 with e9 _ _
          rw [hw,e9]
          exact h9
         have HR9:=TW.hide (HP2.out wr pa_ pc_ hN9 (NB.out.trans (HB.out.mono NB.out.size)))
         rw [hw] at HR9
         have kmm : ((m : Int) != (m : Int)) = false:=by simp
         clear hw hN9 HWy HE HO HPl HB HP2
         obtain ⟨pl,hpl⟩ : ∃ pl,p.length = pl:=⟨_,rfl⟩
         rw [hpl] at HR9 ⊢
         clear hpl
         go_wp2
         refine HKt.out _ _ ?_
         go_wp2
         first | exact HR9.out | exact ⟨rfl,HR9.out⟩
        ·have hp0 : 0 < fwE s l i j m:=by
          have h1:=HE.out.1
          rcases Int.lt_or_le 0 (fwE s l i j m) with h | h
          ·exact h
          ·exact absurd (fwE_zero s l i j m (by omega)) hmm
         obtain ⟨nx,hnx⟩ : ∃ nx,nxT s l i j m = nx:=⟨_,rfl⟩
         obtain ⟨n1,n2,n3,n4,n5⟩:=nxT_is s l i j m him hp0
         rw [hnx] at n1 n2 n3 n4 n5
         obtain ⟨n,rfl⟩ : ∃ n',n = n' + 1:=⟨n - 1,by have:=HE.out.2;omega⟩
         have HWn : Hid (wyD s l i j = (p ++ [nx]) ++ wyF s l i j n nx):=by
          show _ = _
          rw [HWy.out,show wyF s l i j (n + 1) m = nxT s l i j m :: wyF s l i j n (nxT s l i j m) from if_neg hmm,hnx,List.append_assoc]
          rfl
         have HEn : Hid (0 ≤ fwE s l i j nx ∧ fwE s l i j nx ≤ (n : Int)):=by
          have h2:=HE.out.2
          show _ ∧ _
          omega
         have HPn_ : Hid ((p ++ [nx]).length ≤ nx + 1):=by
          have h2:=HPl.out
          show _ ≤ _
          rw [List.length_append]
          simp
          omega
         have HMs : Hid ((fwE s l i j nx).toNat < (fwE s l i j m).toNat):=by show _ < _;omega
         have HN1 : Hid (m < nx):=n1
         have HN2 : Hid (nx ≤ j):=n2
         have HN5:=TW.hide n5
         have HNt : Hid (nxB s l (fwE s l i j) m nx = true):=by
          show _ = _
          rw [nxB_iff]
          exact ⟨HEn.out.1,n4,n3⟩
         have hpl40 : p.length ≤ 40001:=by have:=HPl.out;omega
         have qm0 : (0 : Int) ≤ (m : Int):=by omega
         have qm1 : (m : Int) < (N : Int):=by omega
         have hm41 : m + 1 ≤ 40000:=by omega
         have kmm : ((m : Int) != (j : Int)) = true:=by simp;omega
         clear HWy HE HPl hp0 hnx n1 n2 n3 n4 n5 hmm
         obtain ⟨wb,hwb⟩ : ∃ x,x = wr:=⟨_,rfl⟩
         rw [← hwb] at HO HB ⊢
         clear hwb
         refine wp_seq_k fun K1 hK1 => ?_
         have HK1:=TW.hide hK1
         clear hK1
         go_wp2
         refine HK1.out _ _ ?_
         clear HK1
         refine wp_block ?_
         refine wp_seq_k fun Km hKm => ?_
         have HKm:=TW.hide hKm
         clear hKm
         go_wp2
         go_loopw [19,20] (fun av kv wr => ∃ (k3 : Nat),m < k3 ∧ k3 ≤ nx ∧ av = .int .i64 (m : Int) ∧ kv = .int .i64 (k3 : Int) ∧ Hid (Below wb.heap.size wb wr)) (fun av kv wr => N - (intOf kv).toNat)
         case atStart => exact ⟨m + 1,by omega,by have:=HN1.out;omega,rfl,by go_num,TW.hide (Below.refl _ _)⟩
         case round =>
          obtain ⟨k3,hk3,hk4,rfl,rfl,HBk⟩:=hrel
          have hk3N : k3 < N:=by have:=HN2.out;omega
          have q30 : (0 : Int) ≤ (k3 : Int):=by omega
          have q31 : (k3 : Int) < (N : Int):=by omega
          have q32 : k3 + 1 ≤ 40000:=by omega
          have hWr : Below W0.heap.size W0 wr:=HB.out.trans (HBk.out.mono HB.out.size)
          have y3:=keepC hWr (own_at9 HFE.out k3 (by simpa using hk3N)).1
          have ym:=keepC hWr (own_at9 HFE.out m (by simpa using (show m < N by omega))).1
          rw [rng_getD _ N k3 hk3N] at y3
          rw [rng_getD _ N m (by omega)] at ym
          obtain ⟨b4',hcap',eh,_,yh,_⟩:=HL.out.hAt k3 hk3N
          injection eh with eh1 _ eh3
          injection eh1 with eh1
          injection eh1 with eh1
          subst eh1 eh3
          have yh:=keepC hWr yh
          obtain ⟨oa,oc,eo,hnr⟩:=HL.out.rIs k3
          rw [eo] at yh
          have HNr : Hid (NR wr oa (cs k3)):=hnr.below hWr
          have HRk:=TW.hide (HR.out k3 hk3N)
          have hnb:=nxB_iff s l (fwE s l i j) m k3
          have hfb:=fw_bd s l j (j - i + 1) m
          obtain ⟨fm,hfm⟩ : ∃ fm,fwE s l i j m = fm:=⟨_,rfl⟩
          obtain ⟨f3,hf3⟩ : ∃ f3,fwE s l i j k3 = f3:=⟨_,rfl⟩
          have hfb' : -1 ≤ fm ∧ fm ≤ ((j - i + 1 : Nat) : Int):=by rw [← hfm];exact hfb
          rw [hfm,hf3] at hnb
          rw [hfm] at ym
          rw [hf3] at y3
          have hf0 : -1 ≤ fm:=hfb'.1
          have hf1 : fm ≤ 40001:=by omega
          have kwm : IntKind.i64.wrap (fm - 1) = fm - 1:=by rw [IntKind.wrap_i64];omega
          have HNb:=TW.hide hnb
          clear hfb hfb' hnb hfm hf3 hnr eo
          have HK3 : Hid (nxB s l (fwE s l i j) m k3 = true → k3 = nx):=fun h => by
           rcases Nat.lt_or_ge k3 nx with h1 | h1
           ·have:=HN5.out k3 hk3 h1;rw [h] at this;cases this
           ·omega
          have HK4 : Hid (k3 = nx → nxB s l (fwE s l i j) m k3 = true):=fun h => by rw [h];exact HNt.out
          refine wp_seq_k fun K1 hK1 => ?_
          have HK1:=TW.hide hK1
          clear hK1
          go_wp2
          refine HK1.out _ _ ?_
          clear HK1
          refine wp_seq_k fun Kb3 hKb3 => ?_
          have HKb3:=TW.hide hKb3
          clear hKb3
          refine wp_block ?_
          refine wp_seq_k fun K9 hK9 => ?_
          have HK9:=TW.hide hK9
          clear hK9
          by_cases h30 : 0 ≤ f3
          ·by_cases h3m : f3 = fm - 1
           ·have keq : (f3 == fm - 1) = true:=by simp [h3m]
            have H3m:=TW.hide h3m
            clear h3m
            by_cases hin : (m : Int) ∈ cs k3
            ·have hkn : k3 = nx:=by
              obtain ⟨q,hq1,hq2⟩:=(HRk.out.1 _).1 hin
              have hqm : q = m:=by omega
              rw [hqm] at hq2
              exact HK3.out (HNb.out.2 ⟨h30,H3m.out,hq2⟩)
             have HKn:=TW.hide hkn
             clear hkn
             have HWi : Hid (∀ Y,Below wr.heap.size wr Y → Calls Try.prog 30 #[.slice oa (cs k3).length oc,.int .i64 (m : Int)] Y fun e w' => e = .returned (.bool true) ∧ Below Y.heap.size Y w'):=fun Y hY => by
              have h9:=rwithin oa oc (cs k3) (m : Int) Y (HNr.out.below hY) (by have:=HRk.out.2;omega)
              rw [decide_eq_true hin] at h9
              exact h9
             refine wp_region_noPanic ?_
             refine RG.wp_region_L (fun Z => True) (fun Z => Below wr.heap.size wr Z) [] (by kernel_rfl) ?_
             refine RG.wpL_any fun Yq hYq => ?_
             have HTq : Hid (Below wr.heap.size wr Yq):=by rw [hYq];exact below_drewN (Below.refl _ _) 1
             clear hYq
             refine RG.wpL_take (fuel:=2) (a':=?Aqc) [0,1,2,3,4,5,6,7,8,9,10,11,12,13,14,15,16,17,18,19,20,21,22] (by kernel_rfl) (by kernel_rfl) (fun _ _ _ _ _ h => h) HTq.out (fun _ => trivial) ?rqc ?_
             case rqc =>
              iterate 3
               refine RG.RunsIf.weak (v:=?_) (by rfl) (by rfl) (fun Z hT => ?_) ?_
               rotate_left
               ·go_simp
                rfl
               simp only [Act.put,lpA,lpZ,lpS,lgT,lgZ,lgS]
              refine RG.RunsIf.weak (v:=.int .i64 f3) (by rfl) (by rfl) (fun Z hT => ?_) ?_
              ·have y3:=keepC hT y3;have ym:=keepC hT ym;have yh:=keepC hT yh
               go_simp
              simp only [Act.put,lpA,lpZ,lpS,lgT,lgZ,lgS]
              refine RG.RunsIf.weak (v:=.bool true) (by rfl) (by rfl) (fun Z hT => ?_) ?_
              ·go_simp
               try simp [h30]
              simp only [Act.put,lpA,lpZ,lpS,lgT,lgZ,lgS]
              iterate 4
               refine RG.RunsIf.weak (v:=?_) (by rfl) (by rfl) (fun Z hT => ?_) ?_
               rotate_left
               ·go_simp
                rfl
               simp only [Act.put,lpA,lpZ,lpS,lgT,lgZ,lgS]
              refine RG.RunsIf.weak (v:=.int .i64 f3) (by rfl) (by rfl) (fun Z hT => ?_) ?_
              ·have y3:=keepC hT y3;have ym:=keepC hT ym;have yh:=keepC hT yh
               go_simp
              simp only [Act.put,lpA,lpZ,lpS,lgT,lgZ,lgS]
              iterate 3
               refine RG.RunsIf.weak (v:=?_) (by rfl) (by rfl) (fun Z hT => ?_) ?_
               rotate_left
               ·go_simp
                rfl
               simp only [Act.put,lpA,lpZ,lpS,lgT,lgZ,lgS]
              refine RG.RunsIf.weak (v:=.int .i64 fm) (by rfl) (by rfl) (fun Z hT => ?_) ?_
              ·have y3:=keepC hT y3;have ym:=keepC hT ym;have yh:=keepC hT yh
               go_simp
              simp only [Act.put,lpA,lpZ,lpS,lgT,lgZ,lgS]
              refine RG.RunsIf.weak (v:=?_) (by rfl) (by rfl) (fun Z hT => ?_) ?_
              rotate_left
              ·go_simp
               rfl
              simp only [Act.put,lpA,lpZ,lpS,lgT,lgZ,lgS]
              refine RG.RunsIf.weak (v:=.bool true) (by rfl) (by rfl) (fun Z hT => ?_) ?_
              ·go_simp
               try simp [keq,kwm]
              simp only [Act.put,lpA,lpZ,lpS,lgT,lgZ,lgS]
              iterate 5
               refine RG.RunsIf.weak (v:=?_) (by rfl) (by rfl) (fun Z hT => ?_) ?_
               rotate_left
               ·go_simp
                rfl
               simp only [Act.put,lpA,lpZ,lpS,lgT,lgZ,lgS]
              refine RG.RunsIf.weak (v:=.slice oa (cs k3).length oc) (by rfl) (by rfl) (fun Z hT => ?_) ?_
              ·have y3:=keepC hT y3;have ym:=keepC hT ym;have yh:=keepC hT yh
               go_simp
              simp only [Act.put,lpA,lpZ,lpS,lgT,lgZ,lgS]
              refine RG.RunsIf.weak (v:=?_) (by rfl) (by rfl) (fun Z hT => ?_) ?_
              rotate_left
              ·go_simp
               rfl
              simp only [Act.put,lpA,lpZ,lpS,lgT,lgZ,lgS]
              exact RG.RunsIf.nil
             refine RG.wpL_stepw (i:=23) (by kernel_rfl) (by rfl) (by rfl) (fun KX hK => ?_)
             have HK:=TW.hide hK
             clear hK
             go_simp
             refine (HWi.out Yq HTq.out).mono ?_
             rintro e_Wq Wq ⟨rfl,hb⟩
             have HTr : Hid (Below wr.heap.size wr Wq):=HTq.out.trans (hb.mono HTq.out.size)
             refine HK.out _ _ HTr.out (fun _ => trivial) ?_
             clear HK KX hb
             try simp only [Act.put,lpA,lpZ,lpS,lgT,lgZ,lgS]
             refine RG.wpL_take (fuel:=0) (a':=?Aqd) [24] (by kernel_rfl) (by kernel_rfl) (fun _ _ _ _ _ h => h) HTr.out (fun _ => trivial) ?rqd ?_
             case rqd =>
              refine RG.RunsIf.weak (v:=?_) (by rfl) (by rfl) (fun Z hT => ?_) ?_
              rotate_left
              ·go_simp
               rfl
              simp only [Act.put,lpA,lpZ,lpS,lgT,lgZ,lgS]
              exact RG.RunsIf.nil
             refine RG.wpL_done (by kernel_rfl) ?_ _
             refine NoPanic.normal ?_
             clear HTq
             have HTq:=HTr
             clear HTr
             generalize Wq = Yq at *
             refine HK9.out _ _ ?_
             have HBn : Hid (Below wb.heap.size wb Yq):=HBk.out.trans (HTq.out.mono HBk.out.size)
             obtain rfl : k3 = nx:=HKn.out
             have hA : Below Yq.heap.size Yq (Yq.alloc (.cells #[.int .i64 (k3 : Int)] 3)):=(Below.refl _ _).alloc (Nat.le_refl _) _
             have HBa : Hid (Below wb.heap.size wb (Yq.alloc (.cells #[.int .i64 (k3 : Int)] 3))):=HBn.out.trans (hA.mono HBn.out.size)
             have HBa2 : Hid (Below W0.heap.size W0 (Yq.alloc (.cells #[.int .i64 (k3 : Int)] 3))):=HB.out.trans (HBa.out.mono HB.out.size)
             have HOn:=TW.hide (own_belowI HO.out HBa.out)
             have HQc : Hid (∀ j u,([.int .i64 (k3 : Int)] : List Value)[j]? = some u → (Yq.alloc (.cells #[.int .i64 (k3 : Int)] 3)).cell? ((⟨Yq.heap.size,0,none⟩ : Addr).add j) = some u):=cell_one_new _ _ _
             have HSz : Hid (W0.heap.size ≤ (Yq.alloc (.cells #[.int .i64 (k3 : Int)] 3)).heap.size):=HBa2.out.size
             obtain ⟨pl,hpl⟩ : ∃ pl,p.length = pl:=⟨_,rfl⟩
             have HPp:=TW.hide hpl
             rw [hpl] at HOn hpl40 ⊢
             clear hpl hA HTq HO HBn HBa keq q30 q31 q32 h30 kwm y3 ym yh hin hWr
             go_wp2
             refine HKm.out _ _ ?_
             clear HKm
             go_wp2_with (first | (at_builtin;refine wpList_append_own _ rfl _ _ 23 rfl W0.heap.size 3 i3 (.int .i64 0) 1 8 Try.underlying23 hi3 hz30 hz31 hz32 rfl (by decide) _ pl (p.map (fun (x : Nat) => Value.int .i64 (x : Int))) rfl HOn.out ⟨Yq.heap.size,0,none⟩ 1 1 [.int .i64 (k3 : Int)] rfl rfl HQc.out (by simp [Value.oneCell']) (by unfold maxLen;omega) (by omega) HSz.out ?_;intro v9 w9 hown9 hgr9 _) | fail)
             have HBz : Hid (Below W0.heap.size W0 w9):=HBa2.out.grown hgr9 HSz.out (fun q hq => own_blkI HOn.out q hq)
             have e9 : (p ++ [k3]).length = pl + 1:=by rw [List.length_append,HPp.out];rfl
             have HOz : Hid (w9.ownsRow W0.heap.size 3 1 v9 (p ++ [k3]).length ((p ++ [k3]).map (fun (x : Nat) => Value.int .i64 (x : Int)))):=by
              show w9.ownsRow _ _ _ _ _ _
              rw [e9,List.map_append]
              exact hown9
             obtain ⟨na,nc,en⟩:=own_openE HOz.out
             subst en
             clear hown9 hgr9 e9 HQc
             go_roundw
             case rel => exact ⟨k3,n,p ++ [k3],na,nc,by omega,HN2.out,rfl,rfl,HWn,HEn,HOz,HPn_,HBz⟩
             case measure => simp only [intOf];exact HMs.out
            ·have hne : k3 ≠ nx:=fun h => by
              have h1:=(nxB_iff _ _ _ _ _).1 (HK4.out h)
              exact hin ((HRk.out.1 _).2 ⟨m,rfl,h1.2.2⟩)
             have HWi : Hid (∀ Y,Below wr.heap.size wr Y → Calls Try.prog 30 #[.slice oa (cs k3).length oc,.int .i64 (m : Int)] Y fun e w' => e = .returned (.bool false) ∧ Below Y.heap.size Y w'):=fun Y hY => by
              have h9:=rwithin oa oc (cs k3) (m : Int) Y (HNr.out.below hY) (by have:=HRk.out.2;omega)
              rw [decide_eq_false hin] at h9
              exact h9
             refine wp_region_noPanic ?_
             refine RG.wp_region_L (fun Z => True) (fun Z => Below wr.heap.size wr Z) [] (by kernel_rfl) ?_
             refine RG.wpL_any fun Yq hYq => ?_
             have HTq : Hid (Below wr.heap.size wr Yq):=by rw [hYq];exact below_drewN (Below.refl _ _) 1
             clear hYq
             refine RG.wpL_take (fuel:=2) (a':=?Aqe) [0,1,2,3,4,5,6,7,8,9,10,11,12,13,14,15,16,17,18,19,20,21,22] (by kernel_rfl) (by kernel_rfl) (fun _ _ _ _ _ h => h) HTq.out (fun _ => trivial) ?rqe ?_
             case rqe =>
              iterate 3
               refine RG.RunsIf.weak (v:=?_) (by rfl) (by rfl) (fun Z hT => ?_) ?_
               rotate_left
               ·go_simp
                rfl
               simp only [Act.put,lpA,lpZ,lpS,lgT,lgZ,lgS]
              refine RG.RunsIf.weak (v:=.int .i64 f3) (by rfl) (by rfl) (fun Z hT => ?_) ?_
              ·have y3:=keepC hT y3;have ym:=keepC hT ym;have yh:=keepC hT yh
               go_simp
              simp only [Act.put,lpA,lpZ,lpS,lgT,lgZ,lgS]
              refine RG.RunsIf.weak (v:=.bool true) (by rfl) (by rfl) (fun Z hT => ?_) ?_
              ·go_simp
               try simp [h30]
              simp only [Act.put,lpA,lpZ,lpS,lgT,lgZ,lgS]
              iterate 4
               refine RG.RunsIf.weak (v:=?_) (by rfl) (by rfl) (fun Z hT => ?_) ?_
               rotate_left
               ·go_simp
                rfl
               simp only [Act.put,lpA,lpZ,lpS,lgT,lgZ,lgS]
              refine RG.RunsIf.weak (v:=.int .i64 f3) (by rfl) (by rfl) (fun Z hT => ?_) ?_
              ·have y3:=keepC hT y3;have ym:=keepC hT ym;have yh:=keepC hT yh
               go_simp
              simp only [Act.put,lpA,lpZ,lpS,lgT,lgZ,lgS]
              iterate 3
               refine RG.RunsIf.weak (v:=?_) (by rfl) (by rfl) (fun Z hT => ?_) ?_
               rotate_left
               ·go_simp
                rfl
               simp only [Act.put,lpA,lpZ,lpS,lgT,lgZ,lgS]
              refine RG.RunsIf.weak (v:=.int .i64 fm) (by rfl) (by rfl) (fun Z hT => ?_) ?_
              ·have y3:=keepC hT y3;have ym:=keepC hT ym;have yh:=keepC hT yh
               go_simp
              simp only [Act.put,lpA,lpZ,lpS,lgT,lgZ,lgS]
              refine RG.RunsIf.weak (v:=?_) (by rfl) (by rfl) (fun Z hT => ?_) ?_
              rotate_left
              ·go_simp
               rfl
              simp only [Act.put,lpA,lpZ,lpS,lgT,lgZ,lgS]
              refine RG.RunsIf.weak (v:=.bool true) (by rfl) (by rfl) (fun Z hT => ?_) ?_
              ·go_simp
               try simp [keq,kwm]
              simp only [Act.put,lpA,lpZ,lpS,lgT,lgZ,lgS]
              iterate 5
               refine RG.RunsIf.weak (v:=?_) (by rfl) (by rfl) (fun Z hT => ?_) ?_
               rotate_left
               ·go_simp
                rfl
               simp only [Act.put,lpA,lpZ,lpS,lgT,lgZ,lgS]
              refine RG.RunsIf.weak (v:=.slice oa (cs k3).length oc) (by rfl) (by rfl) (fun Z hT => ?_) ?_
              ·have y3:=keepC hT y3;have ym:=keepC hT ym;have yh:=keepC hT yh
               go_simp
              simp only [Act.put,lpA,lpZ,lpS,lgT,lgZ,lgS]
              refine RG.RunsIf.weak (v:=?_) (by rfl) (by rfl) (fun Z hT => ?_) ?_
              rotate_left
              ·go_simp
               rfl
              simp only [Act.put,lpA,lpZ,lpS,lgT,lgZ,lgS]
              exact RG.RunsIf.nil
             refine RG.wpL_stepw (i:=23) (by kernel_rfl) (by rfl) (by rfl) (fun KX hK => ?_)
             have HK:=TW.hide hK
             clear hK
             go_simp
             refine (HWi.out Yq HTq.out).mono ?_
             rintro e_Wq Wq ⟨rfl,hb⟩
             have HTr : Hid (Below wr.heap.size wr Wq):=HTq.out.trans (hb.mono HTq.out.size)
             refine HK.out _ _ HTr.out (fun _ => trivial) ?_
             clear HK KX hb
             try simp only [Act.put,lpA,lpZ,lpS,lgT,lgZ,lgS]
             refine RG.wpL_take (fuel:=0) (a':=?Aqf) [24] (by kernel_rfl) (by kernel_rfl) (fun _ _ _ _ _ h => h) HTr.out (fun _ => trivial) ?rqf ?_
             case rqf =>
              refine RG.RunsIf.weak (v:=?_) (by rfl) (by rfl) (fun Z hT => ?_) ?_
              rotate_left
              ·go_simp
               rfl
              simp only [Act.put,lpA,lpZ,lpS,lgT,lgZ,lgS]
              exact RG.RunsIf.nil
             refine RG.wpL_done (by kernel_rfl) ?_ _
             refine NoPanic.normal ?_
             clear HTq
             have HTq:=HTr
             clear HTr
             generalize Wq = Yq at *
             refine HK9.out _ _ ?_
             have HBn : Hid (Below wb.heap.size wb Yq):=HBk.out.trans (HTq.out.mono HBk.out.size)
             clear HTq
             go_wp2
             refine HKb3.out _ _ ?_
             go_wp2
             go_roundw
             case rel => exact ⟨k3 + 1,by omega,by omega,rfl,by go_num,HBn⟩
             case measure => simp [intOf];omega
           ·have hne : k3 ≠ nx:=fun h => h3m (HNb.out.1 (HK4.out h)).2.1
            have kne : (f3 == fm - 1) = false:=by simp;omega
            clear h3m
            refine wp_region_noPanic ?_
            refine RG.wp_region_L (fun Z => True) (fun Z => Below wr.heap.size wr Z) [] (by kernel_rfl) ?_
            refine RG.wpL_any fun Yq hYq => ?_
            have HTq : Hid (Below wr.heap.size wr Yq):=by rw [hYq];exact below_drewN (Below.refl _ _) 1
            clear hYq
            refine RG.wpL_take (fuel:=0) (a':=?Aqb) [0,1,2,3,4,5,6,7,8,9,10,11,12,13,14,15,16,17,18,19,20,21,22,23,24] (by kernel_rfl) (by kernel_rfl) (fun _ _ _ _ _ h => h) HTq.out (fun _ => trivial) ?rqb ?_
            case rqb =>
             iterate 3
              refine RG.RunsIf.weak (v:=?_) (by rfl) (by rfl) (fun Z hT => ?_) ?_
              rotate_left
              ·go_simp
               rfl
              simp only [Act.put,lpA,lpZ,lpS,lgT,lgZ,lgS]
             refine RG.RunsIf.weak (v:=.int .i64 f3) (by rfl) (by rfl) (fun Z hT => ?_) ?_
             ·have y3:=keepC hT y3;have ym:=keepC hT ym;have yh:=keepC hT yh
              go_simp
             simp only [Act.put,lpA,lpZ,lpS,lgT,lgZ,lgS]
             refine RG.RunsIf.weak (v:=.bool true) (by rfl) (by rfl) (fun Z hT => ?_) ?_
             ·go_simp
              try simp [h30]
             simp only [Act.put,lpA,lpZ,lpS,lgT,lgZ,lgS]
             iterate 4
              refine RG.RunsIf.weak (v:=?_) (by rfl) (by rfl) (fun Z hT => ?_) ?_
              rotate_left
              ·go_simp
               rfl
              simp only [Act.put,lpA,lpZ,lpS,lgT,lgZ,lgS]
             refine RG.RunsIf.weak (v:=.int .i64 f3) (by rfl) (by rfl) (fun Z hT => ?_) ?_
             ·have y3:=keepC hT y3;have ym:=keepC hT ym;have yh:=keepC hT yh
              go_simp
             simp only [Act.put,lpA,lpZ,lpS,lgT,lgZ,lgS]
             iterate 3
              refine RG.RunsIf.weak (v:=?_) (by rfl) (by rfl) (fun Z hT => ?_) ?_
              rotate_left
              ·go_simp
               rfl
              simp only [Act.put,lpA,lpZ,lpS,lgT,lgZ,lgS]
             refine RG.RunsIf.weak (v:=.int .i64 fm) (by rfl) (by rfl) (fun Z hT => ?_) ?_
             ·have y3:=keepC hT y3;have ym:=keepC hT ym;have yh:=keepC hT yh
              go_simp
             simp only [Act.put,lpA,lpZ,lpS,lgT,lgZ,lgS]
             refine RG.RunsIf.weak (v:=?_) (by rfl) (by rfl) (fun Z hT => ?_) ?_
             rotate_left
             ·go_simp
              rfl
             simp only [Act.put,lpA,lpZ,lpS,lgT,lgZ,lgS]
             refine RG.RunsIf.weak (v:=.bool false) (by rfl) (by rfl) (fun Z hT => ?_) ?_
             ·go_simp
              try simp [kne,kwm]
             simp only [Act.put,lpA,lpZ,lpS,lgT,lgZ,lgS]
             iterate 2
              refine RG.RunsIf.weak (v:=?_) (by rfl) (by rfl) (fun Z hT => ?_) ?_
              rotate_left
              ·go_simp
               rfl
              simp only [Act.put,lpA,lpZ,lpS,lgT,lgZ,lgS]
             iterate 6
              refine RG.RunsIf.skip (by rfl) (by rfl) ?_
              simp only [Act.put,lpA,lpZ,lpS,lgT,lgZ,lgS]
             refine RG.RunsIf.weak (v:=?_) (by rfl) (by rfl) (fun Z hT => ?_) ?_
             rotate_left
             ·go_simp
              rfl
             simp only [Act.put,lpA,lpZ,lpS,lgT,lgZ,lgS]
             exact RG.RunsIf.nil
            refine RG.wpL_done (by kernel_rfl) ?_ _
            refine NoPanic.normal ?_
            refine HK9.out _ _ ?_
            have HBn : Hid (Below wb.heap.size wb Yq):=HBk.out.trans (HTq.out.mono HBk.out.size)
            clear HTq
            go_wp2
            refine HKb3.out _ _ ?_
            go_wp2
            go_roundw
            case rel => exact ⟨k3 + 1,by omega,by omega,rfl,by go_num,HBn⟩
            case measure => simp [intOf];omega
          ·have hne : k3 ≠ nx:=fun h => h30 (HNb.out.1 (HK4.out h)).1
           refine wp_region_noPanic ?_
           refine RG.wp_region_L (fun Z => True) (fun Z => Below wr.heap.size wr Z) [] (by kernel_rfl) ?_
           refine RG.wpL_any fun Yq hYq => ?_
           have HTq : Hid (Below wr.heap.size wr Yq):=by rw [hYq];exact below_drewN (Below.refl _ _) 1
           clear hYq
           refine RG.wpL_take (fuel:=0) (a':=?Aqa) [0,1,2,3,4,5,6,7,8,9,10,11,12,13,14,15,16,17,18,19,20,21,22,23,24] (by kernel_rfl) (by kernel_rfl) (fun _ _ _ _ _ h => h) HTq.out (fun _ => trivial) ?rqa ?_
           case rqa =>
            iterate 3
             refine RG.RunsIf.weak (v:=?_) (by rfl) (by rfl) (fun Z hT => ?_) ?_
             rotate_left
             ·go_simp
              rfl
             simp only [Act.put,lpA,lpZ,lpS,lgT,lgZ,lgS]
            refine RG.RunsIf.weak (v:=.int .i64 f3) (by rfl) (by rfl) (fun Z hT => ?_) ?_
            ·have y3:=keepC hT y3;have ym:=keepC hT ym;have yh:=keepC hT yh
             go_simp
            simp only [Act.put,lpA,lpZ,lpS,lgT,lgZ,lgS]
            refine RG.RunsIf.weak (v:=.bool false) (by rfl) (by rfl) (fun Z hT => ?_) ?_
            ·go_simp
             try simp [h30]
            simp only [Act.put,lpA,lpZ,lpS,lgT,lgZ,lgS]
            refine RG.RunsIf.weak (v:=?_) (by rfl) (by rfl) (fun Z hT => ?_) ?_
            rotate_left
            ·go_simp
             rfl
            simp only [Act.put,lpA,lpZ,lpS,lgT,lgZ,lgS]
            iterate 10
             refine RG.RunsIf.skip (by rfl) (by rfl) ?_
             simp only [Act.put,lpA,lpZ,lpS,lgT,lgZ,lgS]
            iterate 2
             refine RG.RunsIf.weak (v:=?_) (by rfl) (by rfl) (fun Z hT => ?_) ?_
             rotate_left
             ·go_simp
              rfl
             simp only [Act.put,lpA,lpZ,lpS,lgT,lgZ,lgS]
            iterate 6
             refine RG.RunsIf.skip (by rfl) (by rfl) ?_
             simp only [Act.put,lpA,lpZ,lpS,lgT,lgZ,lgS]
            refine RG.RunsIf.weak (v:=?_) (by rfl) (by rfl) (fun Z hT => ?_) ?_
            rotate_left
            ·go_simp
             rfl
            simp only [Act.put,lpA,lpZ,lpS,lgT,lgZ,lgS]
            exact RG.RunsIf.nil
           refine RG.wpL_done (by kernel_rfl) ?_ _
           refine NoPanic.normal ?_
           refine HK9.out _ _ ?_
           have HBn : Hid (Below wb.heap.size wb Yq):=HBk.out.trans (HTq.out.mono HBk.out.size)
           clear HTq
           go_wp2
           refine HKb3.out _ _ ?_
           go_wp2
           go_roundw
           case rel => exact ⟨k3 + 1,by omega,by omega,rfl,by go_num,HBn⟩
           case measure => simp [intOf];omega
  ·have ha' : beA s l i j = false:=by simpa using ha
   have HR:=TW.hide (HPn.out (fun h => ha h.2) W1 NB1.out)
   rw [he] at HR
   rw [ha',he]
   clear ha ha' he HPn HPo HEw HSw
   go_wp2
   first | exact HR.out | exact ⟨rfl,HR.out⟩
 ·have HR:=TW.hide (HPn.out (fun h => he h.1) W1 NB1.out)
  have kv : (beE s l i j != 0) = true:=by simp [he]
  clear he HPn HPo HEw HSw
  generalize beE s l i j = ve at *
  generalize beA s l i j = va at *
  go_wp2
  first | exact HR.out | exact ⟨rfl,HR.out⟩
end LW
end Go.Proofs.Ythcndgnpmefefaa
