/-
 What is read ahead of all: is it a trace?
-/
import Derived.Test.YtfbnakmmmphedaaTv6o
import Derived.Test.YtfbnakmmmphedaaPgXo
set_option linter.unusedVariables false
set_option linter.unusedSimpArgs false
namespace Go.Proofs.Ytfbnakmmmphedaa
open Go.RowKit
namespace LW
open Mc
def ReaQ (w : World) (s : Syst) (pa : Option Addr) (pc : Nat) (ra : Option Addr) (rc : Nat) (la : Option Addr) (lc : Nat) (l : List Ev) : Ending → World → Prop:=fun e w' => ∃ hc,e = .returned (.tuple #[.agg hc,.int .i64 (Tr.vR s l).1,.int .i64 (Tr.vR s l).2.2]) ∧ ((Tr.vR s l).2.2 = 0 → hc = #[.slice pa s.progs.length pc,.slice ra s.rooms.length rc,.int .i64 s.groups,.int .i64 s.locks,.int .i64 s.cells,.slice la l.length lc,.int .i64 (Tr.rnC l : Int)]) ∧ ((Tr.vR s l).2.2 ≠ 0 → hc = #[.slice none 0 0,.slice none 0 0,.int .i64 0,.int .i64 0,.int .i64 0,.slice none 0 0,.int .i64 0]) ∧ Below w.heap.size w w'
theorem results_row_tmps2 {P : Program} {fn : Func} {p q r : Tmp} {ty : TypeId} (h : fn.results = #[.cell p ty,.tmp q,.tmp r]) (tmps : Array Value) (w : World) (g : Nat) (t : TypeId) (cs : Array Value) (fr : Nat × Nat) (d : TypeDesc) (v v2 : Value)
  (hp : tmps.getD p undef = .pointer (some ⟨g,0,none⟩)) (hq : tmps.getD q undef = v) (hr : tmps.getD r undef = v2) (hg : w.heap[g]? = some (.cells cs t fr))
  (hu : P.underlying ty = some d) (hd : (match d with | .struct _ | .array _ _ => true | _ => false) = true) (hi : (P.info? ty).map (·.size) = some cs.size) :
  (results fn tmps).run P w = .ok (.tuple #[.agg cs,v,v2]) w:=by
 have hp' : tmps[p]?.getD undef = .pointer (some ⟨g,0,none⟩):=by simpa using hp
 have hq' : tmps[q]?.getD undef = v:=by simpa using hq
 have hr' : tmps[r]?.getD undef = v2:=by simpa using hr
 simp [results,h,hp',hq',hr',asAddr,run_loadVar_row w g t ty cs fr d hg hu hd hi]
theorem take_ev (l : List Ev) (k : Nat) (h : k < l.length) : l.take (k + 1) = l.take k ++ [Tr.ev l k]:=Tr.take_snoc l k h
set_option maxRecDepth 100000 in
set_option maxHeartbeats 4000000 in
theorem pread (s : Syst) (pa : Option Addr) (pc : Nat) (ra : Option Addr) (rc : Nat) (la : Option Addr) (lc : Nat) (l : List Ev) (w : World) (hs : SyI w s pa ra) (hl : EvI w la lc l) :
  Calls Try.prog 15 #[.agg #[.slice pa s.progs.length pc,.slice ra s.rooms.length rc,.int .i64 s.groups,.int .i64 s.locks,.int .i64 s.cells],.slice la l.length lc] w (ReaQ w s pa pc ra rc la lc l):=by
 obtain ⟨POST,hP⟩ : ∃ P : Ending → World → Prop,P = ReaQ w s pa pc ra rc la lc l:=⟨_,rfl⟩
 have HPo : Hid (∀ e w',(∃ hc,e = .returned (.tuple #[.agg hc,.int .i64 (Tr.vR s l).1,.int .i64 (Tr.vR s l).2.2]) ∧ ((Tr.vR s l).2.2 = 0 → hc = #[.slice pa s.progs.length pc,.slice ra s.rooms.length rc,.int .i64 s.groups,.int .i64 s.locks,.int .i64 s.cells,.slice la l.length lc,.int .i64 (Tr.rnC l : Int)]) ∧ ((Tr.vR s l).2.2 ≠ 0 → hc = #[.slice none 0 0,.slice none 0 0,.int .i64 0,.int .i64 0,.int .i64 0,.slice none 0 0,.int .i64 0]) ∧ Below w.heap.size w w') → POST e w'):=fun e w' h => by rw [hP];exact h
 rw [← hP]
 clear hP
 have hb0 : Below w.heap.size w ((w.alloc (.cells #[.slice pa s.progs.length pc,.slice ra s.rooms.length rc,.int .i64 s.groups,.int .i64 s.locks,.int .i64 s.cells] 30)).alloc (.cells #[.slice none 0 0,.slice none 0 0,.int .i64 0,.int .i64 0,.int .i64 0,.slice none 0 0,.int .i64 0] 57)):=((Below.refl _ _).alloc (Nat.le_refl _) _).alloc (by simp) _
 have HN1 : Hid (((w.alloc (.cells #[.slice pa s.progs.length pc,.slice ra s.rooms.length rc,.int .i64 s.groups,.int .i64 s.locks,.int .i64 s.cells] 30)).alloc (.cells #[.slice none 0 0,.slice none 0 0,.int .i64 0,.int .i64 0,.int .i64 0,.slice none 0 0,.int .i64 0] 57)).heap[w.heap.size]? = some (.cells #[.slice pa s.progs.length pc,.slice ra s.rooms.length rc,.int .i64 s.groups,.int .i64 s.locks,.int .i64 s.cells] 30 (0,0))):=blk_alloc (heap_alloc_new w _)
 have HN2 : Hid (((w.alloc (.cells #[.slice pa s.progs.length pc,.slice ra s.rooms.length rc,.int .i64 s.groups,.int .i64 s.locks,.int .i64 s.cells] 30)).alloc (.cells #[.slice none 0 0,.slice none 0 0,.int .i64 0,.int .i64 0,.int .i64 0,.slice none 0 0,.int .i64 0] 57)).heap[w.heap.size + 1]? = some (.cells #[.slice none 0 0,.slice none 0 0,.int .i64 0,.int .i64 0,.int .i64 0,.slice none 0 0,.int .i64 0] 57 (0,0))):=by
  have h1:=heap_alloc_new (w.alloc (.cells #[.slice pa s.progs.length pc,.slice ra s.rooms.length rc,.int .i64 s.groups,.int .i64 s.locks,.int .i64 s.cells] 30)) (.cells #[.slice none 0 0,.slice none 0 0,.int .i64 0,.int .i64 0,.int .i64 0,.slice none 0 0,.int .i64 0] 57)
  have h2 : (w.alloc (.cells #[.slice pa s.progs.length pc,.slice ra s.rooms.length rc,.int .i64 s.groups,.int .i64 s.locks,.int .i64 s.cells] 30)).heap.size = w.heap.size + 1:=by simp
  rw [h2] at h1;exact h1
 have HSy:=ζ (hs.below hb0)
 have HEv:=ζ (hl.below hb0)
 have HB0:=ζ hb0
 clear hb0 hs hl
 go_enter Try.func15,Try.ntmps15
 refine wp_seq_k fun K hK => ?_
 have HK:=ζ hK
 clear hK
 go_wp2
 refine HK.out _ _ ?_
 clear HK K
 generalize World.alloc _ _ = X at *
 have hgs:=HB0.out.size
 have hgX : w.heap.size + 1 < X.heap.size:=blk_lt HN2.out
 generalize hgh : w.heap.size + 1 = gh at *
 obtain ⟨s0,s1,s2,s3,s4⟩:=cellsY5 HN1.out
 go_wp2_with fail
 refine (pvalid s pa pc ra rc X HSy.out).mono ?_
 rintro e1 W1 ⟨x,rfl,hx1,hx2,hb1⟩
 have HSy1:=ζ (HSy.out.below hb1)
 have HEv1:=ζ (HEv.out.below hb1)
 have HN11:=ζ (blk_keep HN1.out hb1)
 have HN21:=ζ (blk_keep HN2.out hb1)
 have HB1 : Hid (Below w.heap.size w W1):=HB0.out.trans (hb1.mono HB0.out.size)
 have hgW : gh < W1.heap.size:=blk_lt HN21.out
 clear s0 s1 s2 s3 s4 HSy HEv HN1 HN2 HB0 hb1 hgX hgs
 obtain ⟨s0,s1,s2,s3,s4⟩:=cellsY5 HN11.out
 by_cases hok : Ok s
 ·obtain rfl:=hx1 hok
  have HOk:=ζ hok
  clear hx1 hx2 hok;by_cases hln : 40000 < l.length
  ·have HV:=ζ (Tr.vR_long HOk.out hln)
   have kl : (40000 : Int) < (l.length : Int):=by omega
   clear hln;have HBr : Hid (Below w.heap.size w (W1.setRow gh #[.slice none 0 0,.slice none 0 0,.int .i64 0,.int .i64 0,.int .i64 0,.slice none 0 0,.int .i64 0])):=below_setRow HB1.out (by omega)
   have HNr:=ζ (setRow_heap _ _ _ #[.slice none 0 0,.slice none 0 0,.int .i64 0,.int .i64 0,.int .i64 0,.slice none 0 0,.int .i64 0] _ _ HN21.out)
   go_wp2_with (refine wpList_store_row (by rfl) 57 _ _ (by rfl) gh #[.slice none 0 0,.slice none 0 0,.int .i64 0,.int .i64 0,.int .i64 0,.slice none 0 0,.int .i64 0] (by rfl) (by rfl) 57 _ HN21.out (by kernel_rfl) (by rfl) (by simp [Value.oneCell']) ?_)
   refine bodyPost_ret (v:=.tuple #[.agg #[.slice none 0 0,.slice none 0 0,.int .i64 0,.int .i64 0,.int .i64 0,.slice none 0 0,.int .i64 0],.int .i64 0,.int .i64 2]) (results_row_tmps2 (P:=Try.prog) Try.results15 _ _ gh 57 _ (0,0) _ _ _ (by rfl) (by rfl) (by rfl) HNr.out Try.underlying57 rfl (by kernel_rfl)) rfl ?_
   refine HPo.out _ _ ?_;rw [HV.out];exact ⟨_,rfl,fun h => absurd h (by simp),fun _ => rfl,HBr.out⟩
  have kl : ((40000 : Int) < (l.length : Int)) = False:=by simp;omega
  have HLn:=ζ hln
  clear hln;have hr6:=HOk.out.r1
  have HBg : Hid (∀ W,Calls Try.prog 30 #[.agg #[.slice pa s.progs.length pc,.slice ra s.rooms.length rc,.int .i64 s.groups,.int .i64 s.locks,.int .i64 s.cells]] W (BegQ W pa s.progs.length pc ra s.rooms.length rc s.groups s.locks s.cells)):=fun W => pbegin pa _ pc ra _ rc _ _ _ W hr6
  clear hr6;go_wp2_with fail
  refine (HBg.out W1).mono ?_
  rintro e2 W2 ⟨bI,bC,bm,rfl,hI,hC,hM,hbm,hb2⟩
  have HA : Below W2.heap.size W2 ((W2.alloc (.cells #[.slice none 0 0,.slice none 0 0,.int .i64 0,.int .i64 0,.int .i64 0,.int .i64 0,.slice none 0 0,.slice none 0 0,.map none] 85)).setRow W2.heap.size #[.slice pa s.progs.length pc,.slice ra s.rooms.length rc,.int .i64 s.groups,.int .i64 s.locks,.int .i64 s.cells,.int .i64 1,.slice (some ⟨bI,0,none⟩) s.rooms.length s.rooms.length,.slice (some ⟨bC,0,none⟩) s.rooms.length s.rooms.length,.map (some bm)]):=below_setRow ((Below.refl _ _).alloc (Nat.le_refl _) _) (Nat.le_refl _)
  have HNt : Hid (NtM W1.heap.size ((W2.alloc (.cells #[.slice none 0 0,.slice none 0 0,.int .i64 0,.int .i64 0,.int .i64 0,.int .i64 0,.slice none 0 0,.slice none 0 0,.map none] 85)).setRow W2.heap.size #[.slice pa s.progs.length pc,.slice ra s.rooms.length rc,.int .i64 s.groups,.int .i64 s.locks,.int .i64 s.cells,.int .i64 1,.slice (some ⟨bI,0,none⟩) s.rooms.length s.rooms.length,.slice (some ⟨bC,0,none⟩) s.rooms.length s.rooms.length,.map (some bm)]) W2.heap.size bm (.slice (some ⟨bI,0,none⟩) s.rooms.length s.rooms.length) (.slice (some ⟨bC,0,none⟩) s.rooms.length s.rooms.length) s pa pc ra rc [] []):=⟨setRow_heap _ _ _ _ _ _ (heap_alloc_new W2 _),hb2.size,own_belowI hI HA,own_belowI hC HA,hM.below HA,hbm⟩
  have HB3 : Hid (Below W1.heap.size W1 ((W2.alloc (.cells #[.slice none 0 0,.slice none 0 0,.int .i64 0,.int .i64 0,.int .i64 0,.int .i64 0,.slice none 0 0,.slice none 0 0,.map none] 85)).setRow W2.heap.size #[.slice pa s.progs.length pc,.slice ra s.rooms.length rc,.int .i64 s.groups,.int .i64 s.locks,.int .i64 s.cells,.int .i64 1,.slice (some ⟨bI,0,none⟩) s.rooms.length s.rooms.length,.slice (some ⟨bC,0,none⟩) s.rooms.length s.rooms.length,.map (some bm)])):=hb2.trans (HA.mono hb2.size)
  clear hI hC hM hbm hb2 HA;go_wp2_with (refine wpList_store_row (by rfl) 85 _ _ (by rfl) W2.heap.size #[.slice pa s.progs.length pc,.slice ra s.rooms.length rc,.int .i64 s.groups,.int .i64 s.locks,.int .i64 s.cells,.int .i64 1,.slice (some ⟨bI,0,none⟩) s.rooms.length s.rooms.length,.slice (some ⟨bC,0,none⟩) s.rooms.length s.rooms.length,.map (some bm)] (by rfl) (by rfl) 85 _ (heap_alloc_new W2 _) (by kernel_rfl) (by rfl) (by simp [Value.oneCell']) ?_)
  generalize World.setRow _ _ _ = X3 at *;generalize W2.heap.size = g at *;clear s0 s1 s2 s3 s4;go_loopw [25] (fun i wr => ∃ k : Nat,k ≤ l.length ∧ i = .int .i64 (k : Int) ∧ Hid (NtM W1.heap.size wr g bm (.slice (some ⟨bI,0,none⟩) s.rooms.length s.rooms.length) (.slice (some ⟨bC,0,none⟩) s.rooms.length s.rooms.length) s pa pc ra rc (l.take k) (l.take k)) ∧ Hid (Below W1.heap.size W1 wr) ∧ Hid (Tr.Gd s l k)) (fun i wr => l.length - (intOf i).toNat)
  case atStart => exact ⟨0,Nat.zero_le _,rfl,HNt,HB3,Tr.Gd.zero s l⟩
  case round =>
   clear HNt HB3;obtain ⟨k,hk,rfl,HN,HB,HG⟩:=hrel
   have HNh:=ζ (blk_keep HN21.out HB.out)
   have HNs:=ζ (blk_keep HN11.out HB.out)
   have HBw : Hid (Below w.heap.size w wr):=HB1.out.trans (HB.out.mono HB1.out.size)
   by_cases hlt : k < l.length
   ·have HLT:=ζ hlt
    obtain ⟨b,off,who,op,a,va,sh,hla,hev,iw,io,ia,iv,x0,x1,x2,x3,x4⟩:=(HEv1.out.below HB.out).get k hlt
    have hk1 : (k : Int) < (l.length : Int):=by omega
    have hk0 : (0 : Int) ≤ (k : Int):=by omega
    subst hla;have HE:=ζ hev
    have hAl : Below wr.heap.size wr ((wr.alloc (.cells #[.int .i64 0,.int .i64 0,.int .i64 0,.int .i64 0,.bool false] 39)).setRow wr.heap.size #[.int .i64 who,.int .i64 op,.int .i64 a,.int .i64 va,.bool sh]):=below_setRow ((Below.refl _ _).alloc (Nat.le_refl _) _) (Nat.le_refl _)
    have HN1:=ζ (HN.out.below hAl)
    have HEb : Hid (((wr.alloc (.cells #[.int .i64 0,.int .i64 0,.int .i64 0,.int .i64 0,.bool false] 39)).setRow wr.heap.size #[.int .i64 who,.int .i64 op,.int .i64 a,.int .i64 va,.bool sh]).heap[wr.heap.size]? = some (.cells #[.int .i64 who,.int .i64 op,.int .i64 a,.int .i64 va,.bool sh] 39 (0,0))):=setRow_heap _ _ _ _ _ _ (heap_alloc_new wr _)
    have HBa : Hid (Below W1.heap.size W1 ((wr.alloc (.cells #[.int .i64 0,.int .i64 0,.int .i64 0,.int .i64 0,.bool false] 39)).setRow wr.heap.size #[.int .i64 who,.int .i64 op,.int .i64 a,.int .i64 va,.bool sh])):=HB.out.trans (hAl.mono HB.out.size)
    have HBb : Hid (Below w.heap.size w ((wr.alloc (.cells #[.int .i64 0,.int .i64 0,.int .i64 0,.int .i64 0,.bool false] 39)).setRow wr.heap.size #[.int .i64 who,.int .i64 op,.int .i64 a,.int .i64 va,.bool sh])):=HBw.out.trans (hAl.mono HBw.out.size)
    have HNh1:=ζ (blk_keep HNh.out hAl)
    have HFt : Hid (∀ W,NtM W1.heap.size W g bm (.slice (some ⟨bI,0,none⟩) s.rooms.length s.rooms.length) (.slice (some ⟨bC,0,none⟩) s.rooms.length s.rooms.length) s pa pc ra rc (l.take k) (l.take k) → Calls Try.prog 31 #[.pointer (some ⟨g,0,none⟩),.agg #[.int .i64 who,.int .i64 op,.int .i64 a,.int .i64 va,.bool sh]] W (RiP (Tr.FitE s (l.take k) ⟨who,op,a,va,sh⟩) W)):=fun W hW => pfits who op a va sh W hW ia
    have HTk : Hid (∀ W,NtM W1.heap.size W g bm (.slice (some ⟨bI,0,none⟩) s.rooms.length s.rooms.length) (.slice (some ⟨bC,0,none⟩) s.rooms.length s.rooms.length) s pa pc ra rc (l.take k) (l.take k) → Tr.FitE s (l.take k) ⟨who,op,a,va,sh⟩ → Calls Try.prog 32 #[.pointer (some ⟨g,0,none⟩),.agg #[.int .i64 who,.int .i64 op,.int .i64 a,.int .i64 va,.bool sh]] W fun e w' => e = .returned (.tuple #[]) ∧ NtM W1.heap.size w' g bm (.slice (some ⟨bI,0,none⟩) s.rooms.length s.rooms.length) (.slice (some ⟨bC,0,none⟩) s.rooms.length s.rooms.length) s pa pc ra rc (l.take k ++ [⟨who,op,a,va,sh⟩]) (l.take k ++ [⟨who,op,a,va,sh⟩]) ∧ Below W1.heap.size W w'):=fun W hW hf => pntake who op a va sh W hW hf iw ia (by have:=HLn.out;simp;omega)
    clear hAl hev hlt iw io ia iv;go_wp2_with (first | (refine wpList_store_row (by rfl) 39 _ _ (by rfl) wr.heap.size #[.int .i64 who,.int .i64 op,.int .i64 a,.int .i64 va,.bool sh] (by rfl) (by rfl) 39 _ (heap_alloc_new wr _) (by kernel_rfl) (by rfl) (by simp [Value.oneCell']) ?_;generalize World.setRow _ _ _ = X4 at *;generalize wr.heap.size = ge at *;clear x0 x1 x2 x3 x4;obtain ⟨x0,x1,x2,x3,x4⟩:=cellsY5 HEb.out) | fail)
    refine (HFt.out X4 HN1.out).mono ?_
    rintro e5 W5 ⟨bb,rfl,hbb,hb5⟩
    have HN5:=ζ (HN1.out.below hb5)
    have HEb5:=ζ (blk_keep HEb.out hb5)
    have HNh5:=ζ (blk_keep HNh1.out hb5)
    have HBa5 : Hid (Below W1.heap.size W1 W5):=HBa.out.trans (hb5.mono HBa.out.size)
    have HBb5 : Hid (Below w.heap.size w W5):=HBb.out.trans (hb5.mono HBb.out.size)
    have HBB:=ζ hbb
    clear hb5 hbb x0 x1 x2 x3 x4 HFt HN1 HEb HNh1 HBa HBb HNh HNs HBw HN HB;cases bb with
    | false =>
     have HV : Hid (Tr.vR s l = ((k : Int),0,140)):=Tr.vR_bad HOk.out HLn.out HLT.out HG.out (fun h => by
      have h' : Tr.FitE s (l.take k) ⟨who,op,a,va,sh⟩:=by rw [← HE.out];exact h
      have:=HBB.out.2 h'
      cases this)
     clear HG HE HBB HTk HN5 HEb5 HBa5 HLT;have HBr : Hid (Below w.heap.size w (W5.setRow gh #[.slice none 0 0,.slice none 0 0,.int .i64 0,.int .i64 0,.int .i64 0,.slice none 0 0,.int .i64 0])):=below_setRow HBb5.out (by omega)
     have HNr:=ζ (setRow_heap _ _ _ #[.slice none 0 0,.slice none 0 0,.int .i64 0,.int .i64 0,.int .i64 0,.slice none 0 0,.int .i64 0] _ _ HNh5.out)
     go_wp2_with (refine wpList_store_row (by rfl) 57 _ _ (by rfl) gh #[.slice none 0 0,.slice none 0 0,.int .i64 0,.int .i64 0,.int .i64 0,.slice none 0 0,.int .i64 0] (by rfl) (by rfl) 57 _ HNh5.out (by kernel_rfl) (by rfl) (by simp [Value.oneCell']) ?_)
     refine bodyPost_ret (v:=.tuple #[.agg #[.slice none 0 0,.slice none 0 0,.int .i64 0,.int .i64 0,.int .i64 0,.slice none 0 0,.int .i64 0],.int .i64 (k : Int),.int .i64 140]) (results_row_tmps2 (P:=Try.prog) Try.results15 _ _ gh 57 _ (0,0) _ _ _ (by rfl) (by rfl) (by rfl) HNr.out Try.underlying57 rfl (by kernel_rfl)) rfl ?_
     refine HPo.out _ _ ?_;rw [HV.out];exact ⟨_,rfl,fun h => absurd h (by simp),fun _ => rfl,HBr.out⟩
    | true =>
     have HFi : Hid (Tr.FitE s (l.take k) ⟨who,op,a,va,sh⟩):=HBB.out.1 rfl
     have HTk':=ζ (HTk.out W5 HN5.out HFi.out)
     have HG1 : Hid (Tr.Gd s l (k + 1)):=HG.out.succ (by show Tr.FitE s (l.take k) (Tr.ev l k);rw [HE.out];exact HFi.out)
     have HT1 : Hid (l.take (k + 1) = l.take k ++ [⟨who,op,a,va,sh⟩]):=by
      show _ = _
      rw [take_ev l k HLT.out,HE.out]
     clear HTk HFi HBB HG HE HNh5;obtain ⟨x0,x1,x2,x3,x4⟩:=cellsY5 HEb5.out
     go_wp2_with fail
     refine HTk'.out.mono ?_
     rintro e6 W6 ⟨rfl,hN6,hB6⟩
     rw [← HT1.out] at hN6;have HN6:=ζ hN6
     have HB6 : Hid (Below W1.heap.size W1 W6):=HBa5.out.trans hB6
     clear hN6 hB6 x0 x1 x2 x3 x4 HTk' HT1 HEb5 HN5 HBa5 HBb5;have hk4 : k + 1 ≤ 40000:=by have:=HLn.out;have:=HLT.out;omega
     go_wp2;go_roundw
     case rel => exact ⟨k + 1,HLT.out,by go_num,HN6,HB6,HG1⟩
     case measure => simp [intOf];have:=HLT.out;omega
   ·have hkn : l.length = k:=by omega
    have kk : ((k : Int) < (l.length : Int)) = False:=by simp;omega
    have HGl : Hid (Tr.Gd s l l.length):=by rw [hkn];exact HG.out
    have HV:=ζ (Tr.vR_good HOk.out HLn.out HGl.out)
    have HNl : Hid (NtM W1.heap.size wr g bm (.slice (some ⟨bI,0,none⟩) s.rooms.length s.rooms.length) (.slice (some ⟨bC,0,none⟩) s.rooms.length s.rooms.length) s pa pc ra rc l l):=by
     have:=HN.out
     rw [List.take_of_length_le (by omega)] at this
     exact this
    obtain ⟨y0,y1,y2,y3,y4,y5,y6,y7,y8⟩:=cellsY9 HNl.out.blk
    obtain ⟨s0,s1,s2,s3,s4⟩:=cellsY5 HNs.out
    have HBr : Hid (Below w.heap.size w (wr.setRow gh #[.slice pa s.progs.length pc,.slice ra s.rooms.length rc,.int .i64 s.groups,.int .i64 s.locks,.int .i64 s.cells,.slice la l.length lc,.int .i64 (Tr.rnC l : Int)])):=below_setRow HBw.out (by omega)
    have HNr:=ζ (setRow_heap _ _ _ #[.slice pa s.progs.length pc,.slice ra s.rooms.length rc,.int .i64 s.groups,.int .i64 s.locks,.int .i64 s.cells,.slice la l.length lc,.int .i64 (Tr.rnC l : Int)] _ _ HNh.out)
    clear hkn HGl HN HG HNl;go_wp2_with (refine wpList_store_row (by rfl) 57 _ _ (by rfl) gh #[.slice pa s.progs.length pc,.slice ra s.rooms.length rc,.int .i64 s.groups,.int .i64 s.locks,.int .i64 s.cells,.slice la l.length lc,.int .i64 (Tr.rnC l : Int)] (by rfl) (by rfl) 57 _ HNh.out (by kernel_rfl) (by rfl) (by simp [Value.oneCell']) ?_)
    refine bodyPost_ret (v:=.tuple #[.agg #[.slice pa s.progs.length pc,.slice ra s.rooms.length rc,.int .i64 s.groups,.int .i64 s.locks,.int .i64 s.cells,.slice la l.length lc,.int .i64 (Tr.rnC l : Int)],.int .i64 0,.int .i64 0]) (results_row_tmps2 (P:=Try.prog) Try.results15 _ _ gh 57 _ (0,0) _ _ _ (by rfl) (by rfl) (by rfl) HNr.out Try.underlying57 rfl (by kernel_rfl)) rfl ?_
    refine HPo.out _ _ ?_;rw [HV.out];exact ⟨_,rfl,fun _ => rfl,fun h => absurd rfl h,HBr.out⟩
 ·obtain rfl:=hx2 hok
  have HV:=ζ (Tr.vR_sys (l:=l) hok)
  clear hx1 hx2 hok;have HBr : Hid (Below w.heap.size w (W1.setRow gh #[.slice none 0 0,.slice none 0 0,.int .i64 0,.int .i64 0,.int .i64 0,.slice none 0 0,.int .i64 0])):=below_setRow HB1.out (by omega)
  have HNr:=ζ (setRow_heap _ _ _ #[.slice none 0 0,.slice none 0 0,.int .i64 0,.int .i64 0,.int .i64 0,.slice none 0 0,.int .i64 0] _ _ HN21.out)
  go_wp2_with (refine wpList_store_row (by rfl) 57 _ _ (by rfl) gh #[.slice none 0 0,.slice none 0 0,.int .i64 0,.int .i64 0,.int .i64 0,.slice none 0 0,.int .i64 0] (by rfl) (by rfl) 57 _ HN21.out (by kernel_rfl) (by rfl) (by simp [Value.oneCell']) ?_)
  refine bodyPost_ret (v:=.tuple #[.agg #[.slice none 0 0,.slice none 0 0,.int .i64 0,.int .i64 0,.int .i64 0,.slice none 0 0,.int .i64 0],.int .i64 0,.int .i64 130]) (results_row_tmps2 (P:=Try.prog) Try.results15 _ _ gh 57 _ (0,0) _ _ _ (by rfl) (by rfl) (by rfl) HNr.out Try.underlying57 rfl (by kernel_rfl)) rfl ?_
  refine HPo.out _ _ ?_;rw [HV.out];exact ⟨_,rfl,fun h => absurd h (by simp),fun _ => rfl,HBr.out⟩
end LW
end Go.Proofs.Ytfbnakmmmphedaa
