/-
  Bh, Bt in one.
-/
import Derived.Test.YthcndgnpmefefaaIn1o
import Derived.Test.YthcndgnpmefefaaDnAo
import Derived.Test.YthcndgnpmefefaaDcAo
import Derived.Test.YthcndgnpmefefaaCkCo
set_option linter.unusedVariables false
set_option linter.unusedSimpArgs false
namespace Go.Proofs.Ythcndgnpmefefaa
open Go.RowKit
namespace LW
open Mc
def rwB (F : Nat → Bool) (n : Nat) : List Bool:=(List.range n).map F
theorem rwB_len (F : Nat → Bool) (n : Nat) : (rwB F n).length = n:=by simp [rwB]
theorem rwB_at (F : Nat → Bool) (n i : Nat) (hi : i < n) : (rwB F n).getD i false = F i:=by
 unfold rwB
 rw [List.getD_eq_getElem?_getD,List.getElem?_map,List.getElem?_range hi]
 rfl
theorem rwB_set (F : Nat → Bool) (n j : Nat) (x : Bool) : (rwB F n).set j x = rwB (fun q => if q = j then x else F q) n:=by
 unfold rwB
 apply List.ext_getElem?
 intro q
 rw [List.getElem?_set]
 by_cases e : j = q
 ·subst e
  rw [if_pos rfl]
  by_cases h : j < n
  ·rw [if_pos (by simpa using h),List.getElem?_map,List.getElem?_range h,Option.map_some,if_pos rfl]
  ·rw [if_neg (by simpa using h),List.getElem?_eq_none (by simp;omega)]
 ·rw [if_neg e]
  by_cases h : q < n
  ·rw [List.getElem?_map,List.getElem?_range h,List.getElem?_map,List.getElem?_range h,Option.map_some,Option.map_some,if_neg (fun h => e h.symm)]
  ·rw [List.getElem?_eq_none (by simp;omega),List.getElem?_eq_none (by simp;omega)]
theorem own_setQ {w : World} {B b n c : Nat} {l : List Bool} (h : w.ownsRow B 4 1 (.slice (some ⟨b,0,none⟩) n c) n (l.map Value.bool)) (i : Nat) (x : Bool) : (w.setCell ⟨b,i,none⟩ (.bool x)).ownsRow B 4 1 (.slice (some ⟨b,0,none⟩) n c) n ((l.set i x).map Value.bool):=by
 rw [List.map_set]
 exact (World.ownsRow.stored h i _).1
theorem own_atQ {w : World} {B b n c : Nat} {l : List Bool} (h : w.ownsRow B 4 1 (.slice (some ⟨b,0,none⟩) n c) n (l.map Value.bool)) (i : Nat) (hi : i < l.length) : w.cell? ⟨b,i,none⟩ = some (.bool (l.getD i false)) ∧ w.frozen? ⟨b,i,none⟩ = false:=by
 refine ⟨?_,h.frozenAt i⟩
 have h1:=h.cells (g:=b) rfl i (.bool (l.getD i false)) (by rw [List.getElem?_map,List.getElem?_eq_getElem hi,List.getD_eq_getElem?_getD,List.getElem?_eq_getElem hi];rfl)
 have hadd : (⟨b,0,Option.none⟩ : Addr).add i = ⟨b,i,Option.none⟩:=by unfold Addr.add;split <;> simp_all
 rw [hadd] at h1
 exact h1
def bhP (s : Syst) (l : List Ev) (i : Nat) (out : List Int) : Bool:=out.any (fun x => decide (x = (i : Int)) || bfB s l i x.toNat)
def bhF (s : Syst) (l : List Ev) (i j : Nat) (b : Bool) : Nat → Bool:=fun q => if q = j then b else decide (q < j) && bfB s l i q
theorem bhF_low (s : Syst) (l : List Ev) (i j q : Nat) (b : Bool) (h : q < j) : bhF s l i j b q = bfB s l i q:=by
 unfold bhF
 rw [if_neg (by omega)]
 simp [h]
theorem bhF_put (s : Syst) (l : List Ev) (i j n : Nat) (b c : Bool) : (rwB (bhF s l i j b) n).set j c = rwB (bhF s l i j c) n:=by
 rw [rwB_set]
 congr 1
 funext q
 unfold bhF
 split <;> rfl
theorem bhP_snoc (s : Syst) (l : List Ev) (i : Nat) (out : List Int) (x : Int) : bhP s l i (out ++ [x]) = (bhP s l i out || (decide (x = (i : Int)) || bfB s l i x.toNat)):=by
 unfold bhP
 rw [List.any_append]
 simp
theorem bfB_iff (s : Syst) (l : List Ev) (i j : Nat) (hi : i < l.length) (hj : j < l.length) : bfB s l i j = true ↔ Tr.Bf s l i j:=by
 rw [Tr.bf_iff s l i j hi hj]
 unfold bfB
 rw [decide_eq_true_eq]
theorem bhP_all (s : Syst) (l : List Ev) (i j : Nat) (hi : i < l.length) (hj : j < l.length) (out : List Int) (hout : ∀ x,x ∈ out ↔ ∃ i : Nat,x = (i : Int) ∧ Tr.Eg s l i j) : bhP s l i out = bfB s l i j:=by
 rw [Bool.eq_iff_iff,bfB_iff s l i j hi hj]
 unfold bhP
 rw [List.any_eq_true]
 constructor
 ·rintro ⟨x,hx,h⟩
  obtain ⟨k,rfl,hk⟩:=(hout x).1 hx
  rw [Bool.or_eq_true,decide_eq_true_eq,Int.toNat_natCast] at h
  rcases h with h | h
  ·obtain rfl : k = i:=by omega
   exact .one hk
  ·exact ((bfB_iff s l i k hi (by have:=hk.lt;omega)).1 h).more hk
 ·intro h
  cases h with
  | single h => exact ⟨(i : Int),(hout _).2 ⟨i,rfl,h⟩,by simp⟩
  | tail h1 h2 =>
   rename_i k
   exact ⟨(k : Int),(hout _).2 ⟨k,rfl,h2⟩,by rw [Bool.or_eq_true,Int.toNat_natCast];exact .inr ((bfB_iff s l i k hi (by have:=Tr.Eg.lt h2;omega)).2 h1)⟩
theorem bhF_of (s : Syst) (l : List Ev) (i j : Nat) : bhF s l i j (bfB s l i j) = fun q => decide (q < j + 1) && bfB s l i q:=by
 funext q
 unfold bhF
 by_cases e : q = j
 ·subst e
  rw [if_pos rfl,decide_eq_true (by omega : q < q + 1),Bool.true_and]
 ·rw [if_neg e]
  congr 1
  rw [decide_eq_decide]
  omega
theorem bhF_at (s : Syst) (l : List Ev) (i j : Nat) : (fun q => decide (q < j) && bfB s l i q) = bhF s l i j false:=by
 funext q
 unfold bhF
 by_cases e : q = j
 ·subst e
  rw [if_pos rfl,decide_eq_false (by omega : ¬ q < q),Bool.false_and]
 ·rw [if_neg e]
theorem bhF_zero (s : Syst) (l : List Ev) (i n : Nat) (hi : i < l.length) (hn : n ≤ l.length) : List.replicate n (Value.bool false) = (rwB (fun q => decide (q < i + 1) && bfB s l i q) n).map Value.bool:=by
 apply List.ext_getElem?
 intro q
 by_cases h : q < n
 ·rw [List.getElem?_replicate,if_pos h,List.getElem?_map]
  unfold rwB
  rw [List.getElem?_map,List.getElem?_range h,Option.map_some,Option.map_some]
  congr 2
  symm
  by_cases e : q < i + 1
  ·rw [Bool.and_eq_false_iff]
   right
   rw [← Bool.not_eq_true,bfB_iff s l i q hi (by omega)]
   intro h2
   have:=Tr.Bf.lt h2
   omega
  ·rw [decide_eq_false e,Bool.false_and]
 ·rw [List.getElem?_eq_none (by simp;omega),List.getElem?_eq_none (by simp [rwB];omega)]
set_option maxRecDepth 100000 in
set_option maxHeartbeats 40000000 in
theorem rbehind (s : Syst) (pa : Option Addr) (pc : Nat) (ra : Option Addr) (rc : Nat) (la : Option Addr) (lc : Nat) (l : List Ev) (i : Nat) (w : World) (hs : SyI w s pa ra) (hl : EvI w la lc l) (ho : Ok s) (hg : Tr.Gd s l l.length) (hL : l.length ≤ 40000) (hi : i < l.length) :
  Calls Try.prog 28 #[.agg #[.slice pa s.progs.length pc,.slice ra s.rooms.length rc,.int .i64 s.groups,.int .i64 s.locks,.int .i64 s.cells],.slice la l.length lc,.int .i64 (i : Int)] w (fun e w' => ∃ b,e = .returned (.slice (some ⟨b,0,none⟩) l.length l.length) ∧ (∀ q,q < l.length → w'.cell? ⟨b,q,none⟩ = some (.bool (bfB s l i q))) ∧ Below w.heap.size w w'):=by
 obtain ⟨POST,hP⟩ : ∃ Q : Ending → World → Prop,Q = fun e w' => ∃ b,e = .returned (.slice (some ⟨b,0,none⟩) l.length l.length) ∧ (∀ q,q < l.length → w'.cell? ⟨b,q,none⟩ = some (.bool (bfB s l i q))) ∧ Below w.heap.size w w':=⟨_,rfl⟩
 have HPo : Hid (∀ W b,(∀ q,q < l.length → W.cell? ⟨b,q,none⟩ = some (.bool (bfB s l i q))) → Below w.heap.size w W → POST (.returned (.slice (some ⟨b,0,none⟩) l.length l.length)) W):=fun W b h1 h2 => by rw [hP];exact ⟨b,rfl,h1,h2⟩
 rw [← hP]
 clear hP
 have HIn : Hid (∀ (j : Nat) W,Below w.heap.size w W → j < l.length → Calls Try.prog 22 #[.agg #[.slice pa s.progs.length pc,.slice ra s.rooms.length rc,.int .i64 s.groups,.int .i64 s.locks,.int .i64 s.cells],.slice la l.length lc,.int .i64 (j : Int)] W fun e w' => (∃ (v : Value) (out : List Int),e = .returned v ∧ w'.ownsRow W.heap.size 3 1 v out.length (out.map (Value.int .i64)) ∧ out.Pairwise (· < ·) ∧ (∀ x,x ∈ out ↔ ∃ i : Nat,x = (i : Int) ∧ Tr.Eg s l i j) ∧ out.length ≤ 40001) ∧ Below W.heap.size W w'):=fun j W hW hj => (rinto s pa pc ra rc la lc l j W (hs.below hW) (hl.below hW) ho hg hL hj).mono fun e w' h => h
 have HZe : Hid (List.replicate l.length (Value.bool false) = (rwB (fun q => decide (q < i + 1) && bfB s l i q) l.length).map Value.bool):=bhF_zero s l i l.length hi (Nat.le_refl _)
 have HAl : Hid (∀ j out,j < l.length → (∀ x,x ∈ out ↔ ∃ i : Nat,x = (i : Int) ∧ Tr.Eg s l i j) → bhP s l i out = bfB s l i j):=fun j out hj ho => bhP_all s l i j hi hj out ho
 obtain ⟨N,hN⟩ : ∃ N,l.length = N:=⟨_,rfl⟩
 rw [hN] at HIn HZe HAl HPo hL hi ⊢
 have HIi : Hid (i < N):=hi
 clear hs hl ho hg hN
 have ki : IntKind.i64.wrap ((i : Int) + 1) = ((i + 1 : Nat) : Int):=by rw [IntKind.wrap_i64];omega
 have hA : Below w.heap.size w (w.alloc (.cells #[.slice pa s.progs.length pc,.slice ra s.rooms.length rc,.int .i64 s.groups,.int .i64 s.locks,.int .i64 s.cells] 25)):=(Below.refl _ _).alloc (Nat.le_refl _) _
 have N1 : Hid ((w.alloc (.cells #[.slice pa s.progs.length pc,.slice ra s.rooms.length rc,.int .i64 s.groups,.int .i64 s.locks,.int .i64 s.cells] 25)).heap[w.heap.size]? = some (.cells #[.slice pa s.progs.length pc,.slice ra s.rooms.length rc,.int .i64 s.groups,.int .i64 s.locks,.int .i64 s.cells] 25 (0,0))):=heap_alloc_new w _
 have NB:=TW.hide hA
 clear hA
 go_enter Try.func28,Try.ntmps28
 refine wp_seq_k fun K hK => ?_
 have HK:=TW.hide hK
 clear hK
 go_wp2
 refine HK.out _ _ ?_
 clear HK K
 generalize w.alloc _ = X at *
 obtain ⟨i4,hi4,hz40,hz41,hz42⟩:=info_parts' boolinfo
 refine wp_seq_k fun K1 hK1 => ?_
 have HK1:=TW.hide hK1
 clear hK1
 go_wp2_with (at_make;refine wpList_make_full _ rfl _ _ 71 rfl X.heap.size 4 i4 (.bool false) 1 Try.underlying71 hi4 hz40 hz41 _ _ _ _ N rfl rfl rfl rfl (by rw [hz42];omega) (by unfold maxLen;omega) (Nat.le_refl _) ?_;(intro w2 hown hgrow);(rw [made_rep _ rfl] at hown);have HO2:=TW.hide hown;have HG2:=TW.hide hgrow;clear hown hgrow)
 refine HK1.out _ _ ?_
 clear HK1
 have HB2 : Hid (Below X.heap.size X w2):=(Below.refl X.heap.size X).grown HG2.out (Nat.le_refl _) (by intro k h;cases h)
 have NB2 : Hid (Below w.heap.size w w2):=NB.out.trans (HB2.out.mono NB.out.size)
 have NS2:=TW.hide (blk_keep N1.out HB2.out)
 have HOb : Hid (w2.ownsRow X.heap.size 4 1 (.slice (some ⟨X.heap.size,0,none⟩) N N) N ((rwB (fun q => decide (q < i + 1) && bfB s l i q) N).map Value.bool)):=by
  have h9:=HO2.out
  rw [HZe.out] at h9
  exact h9
 have HBX : Hid (w.heap.size < X.heap.size):=blk_lt N1.out
 clear HO2 HG2 HB2 HZe NB N1
 obtain ⟨b0,hb0⟩ : ∃ b0,X.heap.size = b0:=⟨_,rfl⟩
 have HXb:=TW.hide hb0
 clear hb0
 simp only [HXb.out] at HOb HBX ⊢
 refine wp_seq_k fun Kl hKl => ?_
 have HKl:=TW.hide hKl
 clear hKl
 go_wp2
 go_loopw [8] (fun jv wr => ∃ (j : Nat),i + 1 ≤ j ∧ j ≤ N ∧ jv = .int .i64 (j : Int) ∧ Hid (wr.ownsRow b0 4 1 (.slice (some ⟨b0,0,none⟩) N N) N ((rwB (fun q => decide (q < j) && bfB s l i q) N).map Value.bool)) ∧ Hid (wr.heap[w.heap.size]? = some (.cells #[.slice pa s.progs.length pc,.slice ra s.rooms.length rc,.int .i64 s.groups,.int .i64 s.locks,.int .i64 s.cells] 25 (0,0))) ∧ Hid (Below w.heap.size w wr) ) (fun jv wr => N - (intOf jv).toNat)
 case atStart => exact ⟨i + 1,Nat.le_refl _,hi,by go_num,HOb,NS2,NB2⟩
 case round =>
  clear HOb NS2 NB2 ki
  obtain ⟨j,hij,hj,rfl,HO,NS,NB⟩:=hrel
  by_cases hlt : j < N
  ·have qj1 : (j : Int) < (N : Int):=by omega
   have qj0 : (0 : Int) ≤ (j : Int):=by omega
   have hj41 : j + 1 ≤ 40000:=by omega
   have HLT:=TW.hide hlt
   have HFa : Hid (wr.ownsRow b0 4 1 (.slice (some ⟨b0,0,none⟩) N N) N ((rwB (bhF s l i j false) N).map Value.bool)):=by
    have h9:=HO.out
    rw [bhF_at] at h9
    exact h9
   clear HO
   obtain ⟨wa,rfl⟩ : ∃ x,x = wr:=⟨_,rfl⟩
   refine wp_seq_k fun K1 hK1 => ?_
   have HK1:=TW.hide hK1
   clear hK1
   go_wp2
   refine HK1.out _ _ ?_
   clear HK1
   refine wp_seq_k fun Kb hKb => ?_
   have HKb:=TW.hide hKb
   clear hKb
   refine wp_block ?_
   refine wp_seq_k fun K1 hK1 => ?_
   have HK1:=TW.hide hK1
   clear hK1
   obtain ⟨s0,s1,s2,s3,s4⟩:=cellsY5 NS.out
   go_wp2_with fail
   refine (HIn.out j wa NB.out hlt).mono ?_
   rintro e3 W3 ⟨⟨vo,out,rfl,how,_,hmem,hol⟩,hb⟩
   have HO3:=TW.hide (own_belowI HFa.out hb)
   have NS3:=TW.hide (blk_keep NS.out hb)
   have NB3 : Hid (Below w.heap.size w W3):=NB.out.trans (hb.mono NB.out.size)
   obtain ⟨oa,oc,rfl,_⟩:=nr_own9 how
   have HMem:=TW.hide hmem
   obtain ⟨L,hL_⟩ : ∃ L,out.length = L:=⟨_,rfl⟩
   have HLo:=TW.hide hL_
   rw [hL_] at hol how ⊢
   obtain ⟨B0,hB0⟩ : ∃ B0,wa.heap.size = B0:=⟨_,rfl⟩
   have HB0 : Hid (b0 < B0):=by show _ < _;rw [← hB0];exact own_ltM HFa.out (by omega)
   rw [hB0] at how
   have HOw0:=TW.hide how
   have HAj : Hid (bhP s l i out = bfB s l i j):=HAl.out j out hlt hmem
   clear how hb hmem hL_ NS NB HFa s0 s1 s2 s3 s4 hB0 hlt
   go_wp2
   refine HK1.out _ _ ?_
   clear HK1
   go_wp2
   go_loopw [10] (fun kv wr => ∃ (k : Nat),k ≤ L ∧ kv = .int .i64 (k : Int) ∧ Hid (wr.ownsRow b0 4 1 (.slice (some ⟨b0,0,none⟩) N N) N ((rwB (bhF s l i j (bhP s l i (out.take k))) N).map Value.bool)) ∧ Hid (wr.ownsRow B0 3 1 (.slice oa L oc) L (out.map (Value.int .i64))) ∧ Hid (wr.heap[w.heap.size]? = some (.cells #[.slice pa s.progs.length pc,.slice ra s.rooms.length rc,.int .i64 s.groups,.int .i64 s.locks,.int .i64 s.cells] 25 (0,0))) ∧ Hid (Below w.heap.size w wr)) (fun kv wr => L - (intOf kv).toNat)
   case atStart => exact ⟨0,Nat.zero_le _,rfl,HO3,HOw0,NS3,NB3⟩
   case round =>
    clear HO3 HOw0 NS3 NB3
    obtain ⟨k,hk,rfl,HO,HOw,NS,NB⟩:=hrel
    by_cases hlt : k < L
    ·have HIo : Hid (k < out.length):=by show _ < _;rw [HLo.out];exact hlt
     have qi1 : (k : Int) < (L : Int):=by omega
     have qi0 : (0 : Int) ≤ (k : Int):=by omega
     have HIL:=TW.hide hlt
     have hi41 : k + 1 ≤ 40001:=by omega
     obtain ⟨i0,hi0,heg⟩:=(HMem.out (out.getD k 0)).1 (by rw [List.getD_eq_getElem?_getD,List.getElem?_eq_getElem HIo.out];exact List.getElem_mem _)
     have HI0:=TW.hide hi0
     have HI0k : Hid (i0 < j):=heg.lt
     have HSn : Hid (bhP s l i (out.take (k + 1)) = (bhP s l i (out.take k) || (decide ((i0 : Int) = (i : Int)) || bfB s l i i0))):=by
      show _ = _
      rw [take_one9 out k HIo.out 0,bhP_snoc,hi0,Int.toNat_natCast]
     obtain ⟨oa_,oc_,eo,hor⟩:=own_read1 0 HOw.out HLo.out
     injection eo with eo1 _ eo3
     subst eo1 eo3
     rcases hor with h | ⟨b2,rfl,_⟩
     ·have:=HIo.out;rw [h] at this;simp at this
     have ym:=(own_at9 HOw.out k HIo.out).1
     rw [hi0] at ym
     have hlj : i0 < N:=by have:=HI0k.out;have:=HLT.out;omega
     have yo:=(own_atQ HO.out i0 (by rw [rwB_len];exact hlj)).1
     rw [rwB_at _ _ _ hlj,bhF_low s l i j i0 _ HI0k.out] at yo
     have qb0 : (0 : Int) ≤ (i0 : Int):=by omega
     have qb1 : (i0 : Int) < (N : Int):=by omega
     clear hi0 heg hlt hk
     obtain ⟨wc,rfl⟩ : ∃ x,x = wr:=⟨_,rfl⟩
     refine wp_seq_k fun K1 hK1 => ?_
     have HK1:=TW.hide hK1
     clear hK1
     go_wp2
     refine HK1.out _ _ ?_
     clear HK1
     refine wp_seq_k fun Kb2 hKb2 => ?_
     have HKb2:=TW.hide hKb2
     clear hKb2
     refine wp_block ?_
     have cz:=(own_atQ HO.out j (by rw [rwB_len];exact HLT.out)).1
     have fz:=(own_atQ HO.out j (by rw [rwB_len];exact HLT.out)).2
     by_cases et : (decide ((i0 : Int) = (i : Int)) || bfB s l i i0) = true
     ·have HTr : Hid (bhP s l i (out.take (k + 1)) = true):=by show _ = _;rw [HSn.out,et,Bool.or_true]
      have HO9 : Hid ((wc.setCell ⟨b0,j,none⟩ (.bool true)).ownsRow b0 4 1 (.slice (some ⟨b0,0,none⟩) N N) N ((rwB (bhF s l i j (bhP s l i (out.take (k + 1)))) N).map Value.bool)):=by
       have h9:=own_setQ HO.out j true
       rw [bhF_put] at h9
       show World.ownsRow _ _ _ _ _ _ _
       rw [HTr.out]
       exact h9
      have HOw9 : Hid ((wc.setCell ⟨b0,j,none⟩ (.bool true)).ownsRow B0 3 1 (.slice (some ⟨b2,0,none⟩) L oc) L (out.map (Value.int .i64))):=own_setB HOw.out (fun e => by have:=own_blkI HOw.out _ e;have:=HB0.out;omega)
      have NS9 : Hid ((wc.setCell ⟨b0,j,none⟩ (.bool true)).heap[w.heap.size]? = some (.cells #[.slice pa s.progs.length pc,.slice ra s.rooms.length rc,.int .i64 s.groups,.int .i64 s.locks,.int .i64 s.cells] 25 (0,0))):=by
       show _ = _
       rw [Below.heap_setCell _ _ _ _ (by have:=HBX.out;show _ ≠ _;simp;omega)]
       exact NS.out
      have NB9 : Hid (Below w.heap.size w (wc.setCell ⟨b0,j,none⟩ (.bool true))):=NB.out.setCell (p:=⟨b0,j,none⟩) (Nat.le_of_lt HBX.out) (.bool true)
      clear HO HOw NS NB HSn HTr
      by_cases ei : i0 = i
      ·subst ei
       clear et yo
       go_wp2
       refine HKb2.out _ _ ?_
       go_wp2
       go_roundw
       case rel => exact ⟨k + 1,HIL.out,by go_num,HO9,HOw9,NS9,NB9⟩
       case measure => simp [intOf];have:=HIL.out;omega
      ·have kei : ((i0 : Int) == (i : Int)) = false:=by simp;omega
       have kb : bfB s l i i0 = true:=by
        rw [decide_eq_false (by omega),Bool.false_or] at et
        exact et
       rw [kb] at yo
       clear et ei kb
       go_wp2
       refine HKb2.out _ _ ?_
       go_wp2
       go_roundw
       case rel => exact ⟨k + 1,HIL.out,by go_num,HO9,HOw9,NS9,NB9⟩
       case measure => simp [intOf];have:=HIL.out;omega
     ·have ei : i0 ≠ i:=fun e => et (by rw [e];simp)
      have kei : ((i0 : Int) == (i : Int)) = false:=by simp;omega
      have kb : bfB s l i i0 = false:=by
       cases h : bfB s l i i0 with
       | false => rfl
       | true => exact absurd (by rw [h,Bool.or_true]) et
      rw [kb] at yo
      have HO9 : Hid (wc.ownsRow b0 4 1 (.slice (some ⟨b0,0,none⟩) N N) N ((rwB (bhF s l i j (bhP s l i (out.take (k + 1)))) N).map Value.bool)):=by
       show World.ownsRow _ _ _ _ _ _ _
       rw [HSn.out,Bool.eq_false_iff.2 et,Bool.or_false]
       exact HO.out
      clear et ei kb HO HSn cz fz
      go_wp2
      refine HKb2.out _ _ ?_
      go_wp2
      go_roundw
      case rel => exact ⟨k + 1,HIL.out,by go_num,HO9,HOw,NS,NB⟩
      case measure => simp [intOf];have:=HIL.out;omega
    ·obtain rfl : L = k:=by omega
     have qk : ¬ (L : Int) < (L : Int):=by omega
     have HO5 : Hid (wr.ownsRow b0 4 1 (.slice (some ⟨b0,0,none⟩) N N) N ((rwB (fun q => decide (q < j + 1) && bfB s l i q) N).map Value.bool)):=by
      have h9:=HO.out
      rw [← HLo.out,List.take_length,HAj.out,bhF_of] at h9
      exact h9
     clear HO HOw hlt hk
     go_wp2
     refine HKb.out _ _ ?_
     go_wp2
     go_roundw
     case rel => exact ⟨j + 1,by omega,HLT.out,by go_num,HO5,NS,NB⟩
     case measure => simp [intOf];have:=HLT.out;omega
  ·obtain rfl : N = j:=by omega
   have qk : ¬ (N : Int) < (N : Int):=by omega
   have HC : Hid (∀ q,q < N → wr.cell? ⟨b0,q,none⟩ = some (.bool (bfB s l i q))):=fun q hq => by
    have h9:=(own_atQ HO.out q (by rw [rwB_len];exact hq)).1
    rw [rwB_at _ _ _ hq,decide_eq_true hq,Bool.true_and] at h9
    exact h9
   clear HO hlt hj
   go_wp2
   refine HKl.out _ _ ?_
   go_wp2
   have HR:=TW.hide (HPo.out wr b0 HC.out NB.out)
   first | exact HR.out | exact ⟨rfl,HR.out⟩
end LW
end Go.Proofs.Ythcndgnpmefefaa
namespace Go.Proofs.Ythcndgnpmefefaa
open Go.RowKit
namespace LW
open Mc
set_option maxRecDepth 100000 in
set_option maxHeartbeats 40000000 in
theorem rtbefore (s : Syst) (pa : Option Addr) (pc : Nat) (ra : Option Addr) (rc : Nat) (la : Option Addr) (lc : Nat) (l : List Ev) (i j : Int) (w : World) (hs : SyI w s pa ra) (hl : EvI w la lc l) :
  Calls Try.prog 15 #[.agg #[.slice pa s.progs.length pc,.slice ra s.rooms.length rc,.int .i64 s.groups,.int .i64 s.locks,.int .i64 s.cells],.slice la l.length lc,.int .i64 i,.int .i64 j] w fun e w' => e = .returned (.tuple #[.bool (beA s l i j),.int .i64 (beE s l i j)]) ∧ Below w.heap.size w w':=by
 obtain ⟨POST,hP⟩ : ∃ Q : Ending → World → Prop,Q = fun e w' => e = .returned (.tuple #[.bool (beA s l i j),.int .i64 (beE s l i j)]) ∧ Below w.heap.size w w':=⟨_,rfl⟩
 obtain ⟨va,vn,ve,hV⟩ : ∃ a n e,Tr.vR s l = (a,n,e):=⟨_,_,_,rfl⟩
 have HRd : Hid (∀ W,Below w.heap.size w W → Calls Try.prog 21 #[.agg #[.slice pa s.progs.length pc,.slice ra s.rooms.length rc,.int .i64 s.groups,.int .i64 s.locks,.int .i64 s.cells],.slice la l.length lc] W fun e w' => e = .returned (.tuple #[.int .i64 va,.int .i64 vn,.int .i64 ve]) ∧ Below W.heap.size W w'):=fun W hW => (rtvalid s pa pc ra rc la lc l W (hs.below hW) (hl.below hW)).mono (fun e w' h => by rw [hV] at h;exact h)
 have HOk : Hid (ve = 0 → Ok s ∧ l.length ≤ 40000 ∧ Tr.Gd s l l.length):=fun h => by
  have h2:=Tr.vR_ok (s:=s) (l:=l) (by rw [hV];exact h)
  exact ⟨h2.1,h2.2.1,h2.2.2.1⟩
 have HPe : Hid (ve ≠ 0 → ∀ W,Below w.heap.size w W → POST (.returned (.tuple #[.bool false,.int .i64 ve])) W):=fun h W hW => by
  rw [hP]
  have h1 : beE s l i j = ve:=by unfold beE;rw [hV];exact if_neg h
  have h2 : beA s l i j = false:=by unfold beA;rw [h1];simp [h]
  rw [h1,h2]
  exact ⟨rfl,hW⟩
 have HPa : Hid (ve = 0 → ¬ ((0 ≤ i ∧ i < (l.length : Int)) ∧ (0 ≤ j ∧ j < (l.length : Int))) → ∀ W,Below w.heap.size w W → POST (.returned (.tuple #[.bool false,.int .i64 1])) W):=fun h hi W hW => by
  rw [hP]
  have h1 : beE s l i j = 1:=by unfold beE;rw [hV];dsimp only;rw [if_pos h,if_neg hi]
  have h2 : beA s l i j = false:=by unfold beA;rw [h1];rfl
  rw [h1,h2]
  exact ⟨rfl,hW⟩
 have HPo : Hid (ve = 0 → ∀ (k m : Nat),i = (k : Int) → k < l.length → j = (m : Int) → m < l.length → ∀ W,Below w.heap.size w W → POST (.returned (.tuple #[.bool (bfB s l k m),.int .i64 0])) W):=fun h k m e hk e2 hm W hW => by
  rw [hP]
  have h1 : beE s l i j = 0:=by unfold beE;rw [hV];dsimp only;rw [if_pos h,if_pos (by omega)]
  have h2 : beA s l i j = bfB s l k m:=by unfold beA;rw [h1,e,e2];simp
  rw [h1,h2]
  exact ⟨rfl,hW⟩
 rw [← hP]
 have HEw:=TW.hide hl
 have HSw:=TW.hide hs
 clear hP hs hl hV
 have hA : Below w.heap.size w (w.alloc (.cells #[.slice pa s.progs.length pc,.slice ra s.rooms.length rc,.int .i64 s.groups,.int .i64 s.locks,.int .i64 s.cells] 25)):=(Below.refl _ _).alloc (Nat.le_refl _) _
 have N1 : Hid ((w.alloc (.cells #[.slice pa s.progs.length pc,.slice ra s.rooms.length rc,.int .i64 s.groups,.int .i64 s.locks,.int .i64 s.cells] 25)).heap[w.heap.size]? = some (.cells #[.slice pa s.progs.length pc,.slice ra s.rooms.length rc,.int .i64 s.groups,.int .i64 s.locks,.int .i64 s.cells] 25 (0,0))):=heap_alloc_new w _
 have NB:=TW.hide hA
 clear hA
 go_enter Try.func15,Try.ntmps15
 refine wp_seq_k fun K hK => ?_
 have HK:=TW.hide hK
 clear hK
 go_wp2
 refine HK.out _ _ ?_
 clear HK K
 generalize w.alloc _ = X at *
 obtain ⟨s0,s1,s2,s3,s4⟩:=cellsY5 N1.out
 go_wp2_with fail
 refine (HRd.out X NB.out).mono ?_
 rintro e1 W1 ⟨rfl,hb⟩
 have NB1 : Hid (Below w.heap.size w W1):=NB.out.trans (hb.mono NB.out.size)
 have NS:=TW.hide (blk_keep N1.out hb)
 clear hb NB N1 s0 s1 s2 s3 s4 HRd
 obtain ⟨s0,s1,s2,s3,s4⟩:=cellsY5 NS.out
 by_cases he : ve = 0
 ·obtain ⟨ho,hn,hg⟩:=HOk.out he
  have HIn : Hid (∀ (x : Int) W,Calls Try.prog 27 #[.int .i64 x,.int .i64 (l.length : Int)] W fun e w' => e = .returned (.bool (decide (0 ≤ x ∧ x < (l.length : Int)))) ∧ W = w'):=fun x W => rinside x _ W
  have HBe : Hid (∀ k : Nat,k < l.length → ∀ W,Below w.heap.size w W → Calls Try.prog 28 #[.agg #[.slice pa s.progs.length pc,.slice ra s.rooms.length rc,.int .i64 s.groups,.int .i64 s.locks,.int .i64 s.cells],.slice la l.length lc,.int .i64 (k : Int)] W fun e w' => ∃ b,e = .returned (.slice (some ⟨b,0,none⟩) l.length l.length) ∧ (∀ q,q < l.length → w'.cell? ⟨b,q,none⟩ = some (.bool (bfB s l k q))) ∧ Below W.heap.size W w'):=fun k hk W hW => rbehind s pa pc ra rc la lc l k W (HSw.out.below hW) (HEw.out.below hW) ho hg hn hk
  have HPa':=TW.hide (HPa.out he)
  have HPo':=TW.hide (HPo.out he)
  subst he
  clear ho hn hg HOk HPe HPa HPo HEw HSw
  go_wp2_with fail
  refine (HIn.out i W1).mono ?_
  rintro e3 W3 ⟨rfl,rfl⟩
  by_cases hi : 0 ≤ i ∧ i < (l.length : Int)
  ·have kd : (decide (0 ≤ i ∧ i < (l.length : Int))) = true:=decide_eq_true hi
   rw [kd]
   clear kd
   go_wp2_with fail
   refine (HIn.out j W1).mono ?_
   rintro e4 W4 ⟨rfl,rfl⟩
   by_cases hj : 0 ≤ j ∧ j < (l.length : Int)
   ·have kd : (decide (0 ≤ j ∧ j < (l.length : Int))) = true:=decide_eq_true hj
    rw [kd]
    obtain ⟨k,rfl⟩ : ∃ k : Nat,i = (k : Int):=⟨i.toNat,by omega⟩
    obtain ⟨m,rfl⟩ : ∃ m : Nat,j = (m : Int):=⟨j.toNat,by omega⟩
    have hk : k < l.length:=by omega
    have hm : m < l.length:=by omega
    have qm0 : (0 : Int) ≤ (m : Int):=by omega
    have qm1 : (m : Int) < (l.length : Int):=by omega
    have HH:=TW.hide (HBe.out k hk W1 NB1.out)
    have HPk:=TW.hide (HPo'.out k m rfl hk rfl hm)
    have HMl:=TW.hide hm
    clear kd hi hj hk hm HBe HPo' HPa' HIn
    go_wp2_with fail
    refine HH.out.mono ?_
    rintro e5 W5 ⟨b,rfl,hc,hb⟩
    have yq:=hc m HMl.out
    have HR:=TW.hide (HPk.out W5 (NB1.out.trans (hb.mono NB1.out.size)))
    clear hb hc HPk HH
    go_wp2
    first | exact HR.out | exact ⟨rfl,HR.out⟩
   ·have kd : (decide (0 ≤ j ∧ j < (l.length : Int))) = false:=decide_eq_false hj
    have HR:=TW.hide (HPa'.out (fun h => hj h.2) W1 NB1.out)
    rw [kd]
    clear hi hj kd HBe HPo' HPa' HIn
    go_wp2
    first | exact HR.out | exact ⟨rfl,HR.out⟩
  ·have kd : (decide (0 ≤ i ∧ i < (l.length : Int))) = false:=decide_eq_false hi
   have HR:=TW.hide (HPa'.out (fun h => hi h.1) W1 NB1.out)
   rw [kd]
   clear hi kd HBe HPo' HPa' HIn
   go_wp2
   first | exact HR.out | exact ⟨rfl,HR.out⟩
 ·have HR:=TW.hide (HPe.out he W1 NB1.out)
  have kv : (ve != 0) = true:=by simp [he]
  clear he HOk HPe HPa HPo HEw HSw
  go_wp2
  first | exact HR.out | exact ⟨rfl,HR.out⟩
end LW
end Go.Proofs.Ythcndgnpmefefaa
