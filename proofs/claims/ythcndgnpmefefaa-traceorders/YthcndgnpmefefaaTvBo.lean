/-
 The document's Valid; copies of events; the law on Valid.
-/
import Derived.Test.YthcndgnpmefefaaTvAo
import Derived.Laws.AppendOwnNone
import Derived.Test.YthcndgnpmefefaaArgs14o
set_option linter.unusedVariables false
set_option linter.unusedSimpArgs false
namespace Go.Proofs.Ythcndgnpmefefaa
open Go.RowKit
namespace LW
open Mc
set_option maxRecDepth 100000 in
set_option maxHeartbeats 4000000 in
theorem rtvalid (s : Syst) (pa : Option Addr) (pc : Nat) (ra : Option Addr) (rc : Nat) (la : Option Addr) (lc : Nat) (l : List Ev) (w : World) (hs : SyI w s pa ra) (hl : EvI w la lc l) :
  Calls Try.prog 21 #[.agg #[.slice pa s.progs.length pc,.slice ra s.rooms.length rc,.int .i64 s.groups,.int .i64 s.locks,.int .i64 s.cells],.slice la l.length lc] w fun e w' => e = .returned (.tuple #[.int .i64 (Tr.vR s l).1,.int .i64 (Tr.vR s l).2.1,.int .i64 (Tr.vR s l).2.2]) ∧ Below w.heap.size w w':=by
 obtain ⟨va,vn,ve,hV⟩ : ∃ a n e,Tr.vR s l = (a,n,e):=⟨_,_,_,rfl⟩
 rw [hV]
 dsimp only
 have HV:=TW.hide hV
 clear hV
 have HVd : Hid (∀ W,Below w.heap.size w W → Calls Try.prog 38 #[.agg #[.slice pa s.progs.length pc,.slice ra s.rooms.length rc,.int .i64 s.groups,.int .i64 s.locks,.int .i64 s.cells]] W (RiP (Ok s) W)):=fun W hW => rvalid13 s pa pc ra rc _ _ W (hs.below hW).sm rfl rfl hs.pn hs.rn hs.pl
 have HFa : Hid (Ok s → l.length ≤ 40000 → ∀ W,Below w.heap.size w W → Calls Try.prog 39 #[.agg #[.slice pa s.progs.length pc,.slice ra s.rooms.length rc,.int .i64 s.groups,.int .i64 s.locks,.int .i64 s.cells],.slice la l.length lc] W (FauQ W s l)):=fun ho hn W hW => rfault s pa pc ra rc la lc l s.locks.toNat W (hs.below hW) (hl.below hW) ho hn (by have:=ho.l1;omega)
 clear hs hl
 have hA : Below w.heap.size w (w.alloc (.cells #[.slice pa s.progs.length pc,.slice ra s.rooms.length rc,.int .i64 s.groups,.int .i64 s.locks,.int .i64 s.cells] 25)):=(Below.refl _ _).alloc (Nat.le_refl _) _
 have N1 : Hid ((w.alloc (.cells #[.slice pa s.progs.length pc,.slice ra s.rooms.length rc,.int .i64 s.groups,.int .i64 s.locks,.int .i64 s.cells] 25)).heap[w.heap.size]? = some (.cells #[.slice pa s.progs.length pc,.slice ra s.rooms.length rc,.int .i64 s.groups,.int .i64 s.locks,.int .i64 s.cells] 25 (0,0))):=heap_alloc_new w _
 have NB:=TW.hide hA
 clear hA
 go_enter Try.func21,Try.ntmps21
 refine wp_seq_k fun K hK => ?_
 have HK:=TW.hide hK
 clear hK
 go_wp2
 refine HK.out _ _ ?_
 clear HK K
 generalize w.alloc _ = X at *
 obtain ⟨s0,s1,s2,s3,s4⟩:=cellsY5 N1.out
 go_wp2_with fail
 refine (HVd.out X NB.out).mono ?_
 rintro e1 W1 ⟨bo,rfl,hbo,hb⟩
 have NB1 : Hid (Below w.heap.size w W1):=NB.out.trans (hb.mono NB.out.size)
 have N2:=TW.hide (blk_keep N1.out hb)
 clear hb NB N1 s0 s1 s2 s3 s4 HVd
 cases bo with
 | false =>
  have hok : ¬ Ok s:=fun h => by have:=hbo.2 h;cases this
  have h1:=HV.out
  rw [Tr.vR_sys hok] at h1
  injection h1 with h1 h2
  injection h2 with h2 h3
  subst h1 h2 h3
  clear hok hbo HFa HV
  go_wp2
  go_ret3
  exact ⟨rfl,NB1.out⟩
 | true =>
  have hok : Ok s:=hbo.1 rfl
  clear hbo
  by_cases hln : 40000 < l.length
  ·have h1:=HV.out
   rw [Tr.vR_long hok hln] at h1
   injection h1 with h1 h2
   injection h2 with h2 h3
   subst h1 h2 h3
   have kl : (40000 : Int) < (l.length : Int):=by omega
   clear hok HFa HV hln
   go_wp2
   go_ret3
   exact ⟨rfl,NB1.out⟩
  ·have kl : ((40000 : Int) < (l.length : Int)) = False:=by simp;omega
   have HF:=TW.hide (HFa.out hok (by omega) W1 NB1.out)
   have HOk:=TW.hide hok
   have HLn:=TW.hide hln
   clear HFa hok hln
   obtain ⟨s0,s1,s2,s3,s4⟩:=cellsY5 N2.out
   go_wp2_with fail
   refine HF.out.mono ?_
   rintro e2 W2 ⟨at_,n,rfl,h1,h2,hb⟩
   have NB2 : Hid (Below w.heap.size w W2):=NB1.out.trans (hb.mono NB1.out.size)
   clear hb NB1 N2 s0 s1 s2 s3 s4 HF
   by_cases hx : ∃ i,i < l.length ∧ Tr.Gd s l i ∧ ¬ Tr.FitE s (l.take i) (Tr.ev l i)
   ·obtain ⟨i,hi,hg,hf⟩:=hx
    obtain ⟨rfl,rfl⟩:=h2 i hi hg hf
    have h3:=HV.out
    rw [Tr.vR_bad HOk.out HLn.out hi hg hf] at h3
    injection h3 with h3 h4
    injection h4 with h4 h5
    subst h3 h4 h5
    have ki : (0 : Int) ≤ (i : Int):=by omega
    clear h1 h2 hi hg hf HV HOk HLn
    go_wp2
    go_ret3
    exact ⟨rfl,NB2.out⟩
   ·have hg : ∀ i,i ≤ l.length → Tr.Gd s l i:=by
     intro i
     induction i with
     | zero => exact fun _ => Tr.Gd.zero s l
     | succ i ih => exact fun hi => (ih (by omega)).succ (Classical.byContradiction fun hf => hx ⟨i,by omega,ih (by omega),hf⟩)
    obtain ⟨rfl,rfl⟩:=h1 (hg _ (Nat.le_refl _))
    have h3:=HV.out
    rw [Tr.vR_good HOk.out HLn.out (hg _ (Nat.le_refl _))] at h3
    injection h3 with h3 h4
    injection h4 with h4 h5
    subst h3 h4 h5
    clear h1 h2 hg hx HV HOk HLn
    go_wp2
    go_ret3
    exact ⟨rfl,NB2.out⟩
theorem evinfo : (Try.prog.info? 65).map (fun i => (i.zero,i.size,i.bytes)) = some (some (.agg #[.int .i64 0,.int .i64 0,.int .i64 0,.int .i64 0,.bool false]),5,40):=by kernel_rfl
theorem er_cells {w : World} {b off : Nat} {l : List Ev} (h : ER w (some ⟨b,off,none⟩) l) : ∀ j u,(evC l)[j]? = some u → w.cell? ((⟨b,off,none⟩ : Addr).add j) = some u:=by
 intro j u hj
 have hlt : j < l.length * 5:=by
  have:=(List.getElem?_eq_some_iff.1 hj).1
  rwa [evC,flC_len] at this
 rcases h with h | ⟨b',off',e,hc⟩
 ·rw [h] at hlt;simp at hlt
 ·injection e with e
  injection e with e1 e2
  subst e1 e2
  have hq : j / 5 < l.length:=by omega
  obtain ⟨c0,c1,c2,c3,c4⟩:=hc (j / 5) hq
  have hg:=flC_get 5 evV ⟨0,0,0,0,false⟩ l (j / 5) (j % 5) hq (by omega)
  rw [show j / 5 * 5 + j % 5 = j by omega] at hg
  have hj' : (flC 5 evV l)[j]? = some u:=hj
  rw [hg] at hj'
  injection hj' with hj'
  rw [Addr.add_mid,← hj']
  have hm : j % 5 < 5:=by omega
  generalize hr : j % 5 = r at *
  obtain rfl | rfl | rfl | rfl | rfl : r = 0 ∨ r = 1 ∨ r = 2 ∨ r = 3 ∨ r = 4:=by omega
  ·rw [show off + j = off + j / 5 * 5 by omega];exact c0
  ·rw [show off + j = off + j / 5 * 5 + 1 by omega];exact c1
  ·rw [show off + j = off + j / 5 * 5 + 2 by omega];exact c2
  ·rw [show off + j = off + j / 5 * 5 + 3 by omega];exact c3
  ·rw [show off + j = off + j / 5 * 5 + 4 by omega];exact c4
theorem evC_one (l : List Ev) : ∀ u ∈ evC l,u.oneCell' = true:=by
 intro u hu
 obtain ⟨j,hj⟩:=List.getElem?_of_mem hu
 have hlt : j < l.length * 5:=by
  have:=(List.getElem?_eq_some_iff.1 hj).1
  rwa [evC,flC_len] at this
 have hg:=flC_get 5 evV ⟨0,0,0,0,false⟩ l (j / 5) (j % 5) (by omega) (by omega)
 rw [show j / 5 * 5 + j % 5 = j by omega] at hg
 have hj' : (flC 5 evV l)[j]? = some u:=hj
 rw [hg] at hj'
 injection hj' with hj'
 rw [← hj']
 unfold evV
 repeat' split
 all_goals rfl
theorem er_own {w : World} {B : Nat} {v : Value} {l : List Ev} (h : w.ownsRow B 65 5 v l.length (evC l)) : ∃ a c,v = .slice a l.length c ∧ ER w a l ∧ l.length ≤ c ∧ c ≤ 9223372036854775807 ∧ (a = none → c = 0):=by
 rcases h.2 with ⟨rfl,h0⟩ | ⟨g,cap,cur,rfl,_,_,hn,hm,_⟩
 ·exact ⟨none,0,by rw [h0],.inl (List.length_eq_zero_iff.1 h0),by omega,by omega,fun _ => rfl⟩
 ·refine ⟨_,cap,rfl,?_,hn,by simpa [maxLen] using hm,fun h => by cases h⟩
  rcases Nat.eq_zero_or_pos l.length with h0 | h0
  ·exact .inl (List.length_eq_zero_iff.1 h0)
  ·refine .inr ⟨g,0,rfl,fun j hj => ?_⟩
   have hr:=own_rdA h rfl h0
   have hg:=fun r hr => flC_get 5 evV ⟨0,0,0,0,false⟩ l j r hj hr
   simp only [Nat.zero_add]
   exact ⟨hr _ _ (hg 0 (by omega)),hr _ _ (hg 1 (by omega)),hr _ _ (hg 2 (by omega)),hr _ _ (hg 3 (by omega)),hr _ _ (hg 4 (by omega))⟩
set_option maxRecDepth 100000 in
set_option maxHeartbeats 4000000 in
theorem wpList_copy_evs {w : World} {ops : Array Oper} {rest : List Oper} {o : Oper} {a : Act} {Q : Exit → Act → World → Prop} (hgd : o.guard = none) (s x : Operand)
  (ho : o.op = .call { callee:=.builtin .append,args:=#[s,x],argTypes:=#[26,26] }) (b : Option Addr) (cap : Nat) (l : List Ev) (hs : a.eval s = .slice none 0 0) (hx : a.eval x = .slice b l.length cap)
  (hr : ER w b l) (hn : b = none → cap = 0) (hm : l.length ≤ 3518437208780)
  (h : ∀ x' w',w'.ownsRow w.heap.size 65 5 x' l.length (evC l) → Below w.heap.size w w' → wpList Try.prog ops Q rest (a.put o.dst x') w') : wpList Try.prog ops Q (o :: rest) a w:=by
 obtain ⟨i0,hi,hz0,hz1,hz2⟩:=info_parts' evinfo
 cases b with
 | none =>
  obtain rfl:=hn rfl
  obtain rfl : l = []:=by rcases hr with h | ⟨b,off,h,_⟩ <;> first | exact h | cases h
  exact wpList_append_own_none hgd s x 26 ho w.heap.size 65 i0 5 Try.underlying26 hi _ 0 [] hs (World.ownsRow_nil _ _ _ _) hx (h _ _ (World.ownsRow_nil _ _ _ _) (Below.refl _ _))
 | some ad =>
  refine wpList_append_own _ hgd s x 26 ho w.heap.size 65 i0 _ 5 40 Try.underlying26 hi hz0 hz1 hz2 rfl (by decide) _ 0 [] hs (World.ownsRow_nil _ _ _ _) ad l.length cap (evC l) hx (by rw [evC,flC_len]) (fun j u hj => ?_) (evC_one l) (by unfold maxLen;omega) (by omega) (Nat.le_refl _) ?_
  ·rcases hr with h0 | ⟨b,off,e,hc⟩
   ·rw [h0] at hj;simp [evC,flC] at hj
   ·injection e with e
    subst e
    exact er_cells (.inr ⟨b,off,rfl,hc⟩) j u hj
  ·intro v' w2 hown' hgrow' _
   rw [Nat.zero_add] at hown'
   exact h _ _ hown' ((Below.refl _ _).grown hgrow' (Nat.le_refl _) (fun k hk => by cases hk))
set_option maxRecDepth 100000 in
set_option maxHeartbeats 4000000 in
theorem lcopied (la : Option Addr) (lc : Nat) (l : List Ev) (w : World) (hl : EvI w la lc l) (hz : l.length ≤ 3518437208780) :
  Calls Try.prog 7 #[.slice la l.length lc] w fun e w' => ∃ a c,e = .returned (.slice a l.length c) ∧ EvI w' a c l ∧ Below w.heap.size w w':=by
 have HR:=TW.hide hl.er
 have HN:=TW.hide hl.nn
 have HI:=TW.hide hl.ie
 have HZ:=TW.hide hz
 clear hl hz
 go_enter Try.func7,Try.ntmps7
 go_wp2_with (at_builtin;refine wpList_copy_evs rfl _ _ rfl la lc l rfl rfl HR.out HN.out HZ.out ?_;intro x1 w1 ho1 hb1;obtain ⟨a,c,rfl,he,h1,h2,h3⟩:=er_own ho1)
 go_ret
 exact ⟨a,c,rfl,⟨he,HI.out,h1,h2,h3⟩,hb1⟩
end LW
end Go.Proofs.Ythcndgnpmefefaa
