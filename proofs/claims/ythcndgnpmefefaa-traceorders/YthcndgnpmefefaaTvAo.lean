/-
 The document's Fault.
-/
import Derived.Test.YthcndgnpmefefaaTv9o
set_option linter.unusedVariables false
set_option linter.unusedSimpArgs false
namespace Go.Proofs.Ythcndgnpmefefaa
open List renaming setIfInBounds_toArray → lpA,set_cons_zero → lpZ,set_cons_succ → lpS,getElem_toArray → lgT,getElem_cons_zero → lgZ,getElem_cons_succ → lgS
open Go.RowKit
namespace LW
open Mc
theorem wpList_make_full {P : Program} (w : World) {ops : Array Oper} {rest : List Oper} {o : Oper} {a : Act} {Q : Exit → Act → World → Prop} (hg : o.guard = none)
  (l c : Operand) (t : TypeId) (hop : o.op = Op.makeSlice t l c)
  (base : Nat) (e : TypeId) (i : TypeInfo) (z : Value) (size : Nat) (h1 : P.underlying t = some (.slice e)) (h2 : P.info? e = some i) (h3 : i.zero = some z) (h4 : i.size = size)
  (kl kc : IntKind) (L C : Int) (n : Nat) (hl : a.eval l = .int kl L) (hc : a.eval c = .int kc C) (hL : L = (n : Int)) (hC : C = (n : Int)) (b2 : i.bytes * n ≤ 281474976710656) (b3 : n ≤ maxLen) (b4 : base ≤ w.heap.size)
  (hK : ∀ w',w'.ownsRow base e size (.slice (some ⟨w.heap.size,0,none⟩) n n) n (madeCells z.cells (n * size)).toList → w.grownBy w' none → wpList P ops Q rest (a.put o.dst (.slice (some ⟨w.heap.size,0,none⟩) n n)) w') :
  wpList P ops Q (o :: rest) a w :=
 wpList_plain hg fun K' hK' => wp_make_full w l c t hop base e i z size h1 h2 h3 h4 kl kc L C n hl hc hL hC b2 b3 b4 (fun w' r1 r2 => hK' _ _ (hK w' r1 r2))
set_option maxRecDepth 100000 in
set_option maxHeartbeats 4000000 in
theorem rfault (s : Syst) (pa : Option Addr) (pc : Nat) (ra : Option Addr) (rc : Nat) (la : Option Addr) (lc : Nat) (l : List Ev) (L : Nat) (w : World) (hs : SyI w s pa ra) (hl : EvI w la lc l) (ho : Mc.Ok s) (hln : l.length ≤ 40000) (hL : s.locks = (L : Int)) :
  Calls Try.prog 39 #[.agg #[.slice pa s.progs.length pc,.slice ra s.rooms.length rc,.int .i64 s.groups,.int .i64 s.locks,.int .i64 s.cells],.slice la l.length lc] w (FauQ w s l):=by
 obtain ⟨POST,hP⟩ : ∃ P : Ending → World → Prop,P = FauQ w s l:=⟨_,rfl⟩
 have HPo : Hid (∀ e w',FauQ w s l e w' → POST e w'):=fun e w' h => by rw [hP];exact h
 rw [← hP]
 clear hP
 have hr6:=ho.r1
 have hL6 : L ≤ 64:=by have:=ho.l1;omega
 have HEv:=TW.hide (hl.below ((Below.refl w.heap.size w).alloc (Nat.le_refl _) (.cells #[.slice pa s.progs.length pc,.slice ra s.rooms.length rc,.int .i64 s.groups,.int .i64 s.locks,.int .i64 s.cells] 25)))
 have HMe : Hid (∀ who op a va sh W,Calls Try.prog 62 #[.agg #[.slice pa s.progs.length pc,.slice ra s.rooms.length rc,.int .i64 s.groups,.int .i64 s.locks,.int .i64 s.cells],.agg #[.int .i64 who,.int .i64 op,.int .i64 a,.int .i64 va,.bool sh]] W fun e w' => e = .returned (.bool (meB s.rooms.length s.progs.length s.groups s.locks s.cells op a)) ∧ Below W.heap.size W w'):=fun who op a va sh W => rmeant pa _ pc ra _ rc _ _ _ who op a va sh W
 have HL:=TW.hide hL
 clear hs hl ho hL
 have hA : Below w.heap.size w (w.alloc (.cells #[.slice pa s.progs.length pc,.slice ra s.rooms.length rc,.int .i64 s.groups,.int .i64 s.locks,.int .i64 s.cells] 25)):=(Below.refl _ _).alloc (Nat.le_refl _) _
 have N1 : Hid ((w.alloc (.cells #[.slice pa s.progs.length pc,.slice ra s.rooms.length rc,.int .i64 s.groups,.int .i64 s.locks,.int .i64 s.cells] 25)).heap[w.heap.size]? = some (.cells #[.slice pa s.progs.length pc,.slice ra s.rooms.length rc,.int .i64 s.groups,.int .i64 s.locks,.int .i64 s.cells] 25 (0,0))):=heap_alloc_new w _
 have NB:=TW.hide hA
 clear hA
 go_enter Try.func39,Try.ntmps39
 refine wp_seq_k fun K hK => ?_
 have HK:=TW.hide hK
 clear hK
 go_wp2
 refine HK.out _ _ ?_
 clear HK K
 generalize w.alloc _ = X at *
 obtain ⟨s0,s1,s2,s3,s4⟩:=cellsY5 N1.out
 obtain ⟨B,hB⟩ : ∃ B,B = X.heap.size:=⟨_,rfl⟩
 have HBk : Hid (∀ W,Below B X W → Below X.heap.size X W):=fun W h => by rw [← hB];exact h
 have HXs : Hid (B ≤ X.heap.size):=Nat.le_of_eq hB
 have HBw : Hid (w.heap.size ≤ B):=by rw [hB];exact NB.out.size
 clear hB
 obtain ⟨i3,hi3,hz30,hz31,hz32⟩:=info_parts' intinfo
 obtain ⟨i4,hi4,hz40,hz41,hz42⟩:=info_parts' boolinfo
 refine wp_seq_k fun K hK => ?_
 have HK:=TW.hide hK
 clear hK
 go_wp2
 refine HK.out _ _ ?_
 clear HK K
 refine wp_seq_k fun K hK => ?_
 have HK:=TW.hide hK
 clear hK
 go_wp2_with (at_make;refine wpList_make_full _ rfl _ _ 23 (by rfl) B 3 i3 (.int .i64 0) 1 Try.underlying23 hi3 hz30 hz31 .i64 .i64 (s.rooms.length : Int) (s.rooms.length : Int) s.rooms.length (by rfl) (by rfl) rfl rfl (by rw [hz32];omega) (by unfold maxLen;omega) HXs.out ?_;intro V7 hown hgrow)
 rw [made_rep _ rfl,rep_rw s.rooms.length (snV []) _ (fun c => rfl)] at hown
 have HX7 : Hid (Below B X V7):=(Below.refl _ _).grown hgrow HXs.out (by intro k h;cases h)
 clear hgrow HXs
 go_wp2
 refine HK.out _ _ ?_
 clear HK K
 have s0_:=keepC (HBk.out _ HX7.out) (blk_cell N1.out (i:=0) rfl)
 have s1_:=keepC (HBk.out _ HX7.out) (blk_cell N1.out (i:=1) rfl)
 have s3_:=keepC (HBk.out _ HX7.out) (blk_cell N1.out (i:=3) rfl)
 clear s0 s1 s2 s3 s4
 have s0:=s0_
 have s1:=s1_
 have s3:=s3_
 have s2 : True:=trivial
 have s4 : True:=trivial
 clear s0_ s1_ s3_
 have HXs : Hid (B ≤ V7.heap.size):=Nat.le_trans (Nat.le_of_lt (Nat.lt_of_le_of_lt (own_blkI hown _ rfl) (own_lt hown _ rfl))) (Nat.le_refl _)
 generalize hbq : X.heap.size = b7
 rw [hbq] at hown
 have HO7 : Hid (OR B V7 3 b7 s.rooms.length (snV [])):=hown
 clear hown hbq
 refine wp_seq_k fun K hK => ?_
 have HK:=TW.hide hK
 clear hK
 go_wp2_with (at_make;refine wpList_make_full _ rfl _ _ 23 (by rfl) B 3 i3 (.int .i64 0) 1 Try.underlying23 hi3 hz30 hz31 .i64 .i64 (s.rooms.length : Int) (s.rooms.length : Int) s.rooms.length (by rfl) (by rfl) rfl rfl (by rw [hz32];omega) (by unfold maxLen;omega) HXs.out ?_;intro V8 hown hgrow)
 rw [made_rep _ rfl,rep_rw s.rooms.length (tkV []) _ (fun c => rfl)] at hown
 have HX8 : Hid (Below B X V8):=HX7.out.grown hgrow HXs.out (by intro k h;cases h)
 have hk7:=HO7.out.keep (w':=V8) (hgrow.block _ HO7.out.lt (fun h => by cases h))
 have hne7_8 : Hid (b7 ≠ V7.heap.size):=fun e => by have:=HO7.out.lt;omega
 clear HO7
 have HO7:=TW.hide hk7
 clear hk7
 clear hgrow HXs
 go_wp2
 refine HK.out _ _ ?_
 clear HK K
 have s0_:=keepC (HBk.out _ HX8.out) (blk_cell N1.out (i:=0) rfl)
 have s1_:=keepC (HBk.out _ HX8.out) (blk_cell N1.out (i:=1) rfl)
 have s3_:=keepC (HBk.out _ HX8.out) (blk_cell N1.out (i:=3) rfl)
 clear s0 s1 s2 s3 s4
 have s0:=s0_
 have s1:=s1_
 have s3:=s3_
 have s2 : True:=trivial
 have s4 : True:=trivial
 clear s0_ s1_ s3_
 have HXs : Hid (B ≤ V8.heap.size):=Nat.le_trans (Nat.le_of_lt (Nat.lt_of_le_of_lt (own_blkI hown _ rfl) (own_lt hown _ rfl))) (Nat.le_refl _)
 generalize hbq : V7.heap.size = b8
 rw [hbq] at hown
 rw [hbq] at hne7_8
 have HO8 : Hid (OR B V8 3 b8 s.rooms.length (tkV [])):=hown
 clear hown hbq
 refine wp_seq_k fun K hK => ?_
 have HK:=TW.hide hK
 clear hK
 go_wp2_with (at_make;refine wpList_make_full _ rfl _ _ 71 (by rfl) B 4 i4 (.bool false) 1 Try.underlying71 hi4 hz40 hz41 .i64 .i64 (s.rooms.length : Int) (s.rooms.length : Int) s.rooms.length (by rfl) (by rfl) rfl rfl (by rw [hz42];omega) (by unfold maxLen;omega) HXs.out ?_;intro V9 hown hgrow)
 rw [made_rep _ rfl,rep_rw s.rooms.length (clV []) _ (fun c => rfl)] at hown
 have HX9 : Hid (Below B X V9):=HX8.out.grown hgrow HXs.out (by intro k h;cases h)
 have hk7:=HO7.out.keep (w':=V9) (hgrow.block _ HO7.out.lt (fun h => by cases h))
 have hne7_9 : Hid (b7 ≠ V8.heap.size):=fun e => by have:=HO7.out.lt;omega
 clear HO7
 have HO7:=TW.hide hk7
 clear hk7
 have hk8:=HO8.out.keep (w':=V9) (hgrow.block _ HO8.out.lt (fun h => by cases h))
 have hne8_9 : Hid (b8 ≠ V8.heap.size):=fun e => by have:=HO8.out.lt;omega
 clear HO8
 have HO8:=TW.hide hk8
 clear hk8
 clear hgrow HXs
 go_wp2
 refine HK.out _ _ ?_
 clear HK K
 have s0_:=keepC (HBk.out _ HX9.out) (blk_cell N1.out (i:=0) rfl)
 have s1_:=keepC (HBk.out _ HX9.out) (blk_cell N1.out (i:=1) rfl)
 have s3_:=keepC (HBk.out _ HX9.out) (blk_cell N1.out (i:=3) rfl)
 clear s0 s1 s2 s3 s4
 have s0:=s0_
 have s1:=s1_
 have s3:=s3_
 have s2 : True:=trivial
 have s4 : True:=trivial
 clear s0_ s1_ s3_
 have HXs : Hid (B ≤ V9.heap.size):=Nat.le_trans (Nat.le_of_lt (Nat.lt_of_le_of_lt (own_blkI hown _ rfl) (own_lt hown _ rfl))) (Nat.le_refl _)
 generalize hbq : V8.heap.size = b9
 rw [hbq] at hown
 rw [hbq] at hne7_9
 rw [hbq] at hne8_9
 have HO9 : Hid (OR B V9 4 b9 s.rooms.length (clV [])):=hown
 clear hown hbq
 refine wp_seq_k fun K hK => ?_
 have HK:=TW.hide hK
 clear hK
 go_wp2_with (at_make;refine wpList_make_full _ rfl _ _ 71 (by rfl) B 4 i4 (.bool false) 1 Try.underlying71 hi4 hz40 hz41 .i64 .i64 s.locks s.locks L (by rfl) (by rfl) HL.out HL.out (by rw [hz42];omega) (by unfold maxLen;omega) HXs.out ?_;intro V10 hown hgrow)
 rw [made_rep _ rfl,rep_rw L (hdV []) _ (fun c => rfl)] at hown
 have HX10 : Hid (Below B X V10):=HX9.out.grown hgrow HXs.out (by intro k h;cases h)
 have hk7:=HO7.out.keep (w':=V10) (hgrow.block _ HO7.out.lt (fun h => by cases h))
 have hne7_10 : Hid (b7 ≠ V9.heap.size):=fun e => by have:=HO7.out.lt;omega
 clear HO7
 have HO7:=TW.hide hk7
 clear hk7
 have hk8:=HO8.out.keep (w':=V10) (hgrow.block _ HO8.out.lt (fun h => by cases h))
 have hne8_10 : Hid (b8 ≠ V9.heap.size):=fun e => by have:=HO8.out.lt;omega
 clear HO8
 have HO8:=TW.hide hk8
 clear hk8
 have hk9:=HO9.out.keep (w':=V10) (hgrow.block _ HO9.out.lt (fun h => by cases h))
 have hne9_10 : Hid (b9 ≠ V9.heap.size):=fun e => by have:=HO9.out.lt;omega
 clear HO9
 have HO9:=TW.hide hk9
 clear hk9
 clear hgrow HXs
 go_wp2
 refine HK.out _ _ ?_
 clear HK K
 have s0_:=keepC (HBk.out _ HX10.out) (blk_cell N1.out (i:=0) rfl)
 have s1_:=keepC (HBk.out _ HX10.out) (blk_cell N1.out (i:=1) rfl)
 have s3_:=keepC (HBk.out _ HX10.out) (blk_cell N1.out (i:=3) rfl)
 clear s0 s1 s2 s3 s4
 have s0:=s0_
 have s1:=s1_
 have s3:=s3_
 have s2 : True:=trivial
 have s4 : True:=trivial
 clear s0_ s1_ s3_
 have HXs : Hid (B ≤ V10.heap.size):=Nat.le_trans (Nat.le_of_lt (Nat.lt_of_le_of_lt (own_blkI hown _ rfl) (own_lt hown _ rfl))) (Nat.le_refl _)
 generalize hbq : V9.heap.size = b10
 rw [hbq] at hown
 rw [hbq] at hne7_10
 rw [hbq] at hne8_10
 rw [hbq] at hne9_10
 have HO10 : Hid (OR B V10 4 b10 L (hdV [])):=hown
 clear hown hbq
 have HFt : Hid (FtM B V10 b7 b8 b9 b10 s L []):=⟨HO7.out,HO8.out,HO9.out,HO10.out,hne7_8.out,hne9_10.out⟩
 have HXb:=HX10
 clear HO7 HO8 HO9 HO10 HX7 HX8 HX9 HX10 hne7_8 hne7_9 hne7_10 hne8_9 hne8_10 hne9_10 s0 s1 s2 s3 s4 HXs
 go_wp2
 go_loopw [6,11] (fun rn i wr => ∃ k : Nat,k ≤ l.length ∧ i = .int .i64 (k : Int) ∧ rn = .int .i64 (Tr.rnC (l.take k) : Int) ∧ Hid (FtM B wr b7 b8 b9 b10 s L (l.take k)) ∧ Hid (Below B X wr) ∧ Hid (Tr.Gd s l k)) (fun rn i wr => l.length - (intOf i).toNat)
 case atStart => exact ⟨0,Nat.zero_le _,rfl,rfl,HFt,HXb,Tr.Gd.zero s l⟩
 case round =>
  clear HFt HXb
  obtain ⟨k,hk,rfl,rfl,HF,HXr,HG⟩:=hrel
  by_cases hlt : k < l.length
  ·have HLT:=TW.hide hlt
   obtain ⟨b,off,who,op,a,va,sh,hla,hev,iw,io,ia,iv,x0,x1,x2,x3,x4⟩:=(HEv.out.below (HBk.out _ HXr.out)).get k hlt
   have hk1 : (k : Int) < (l.length : Int):=by omega
   have hk0 : (0 : Int) ≤ (k : Int):=by omega
   have hk4 : k + 1 ≤ 40000:=by omega
   subst hla
   have HE:=TW.hide hev
   have HBad : Hid (¬ Tr.FitE s (l.take k) ⟨who,op,a,va,sh⟩ → ∀ W,Below B X W → POST (.returned (.tuple #[.int .i64 (k : Int),.int .i64 0])) W):=fun hn W hW => HPo.out _ _ ⟨(k : Int),0,rfl,fun hG => absurd (show Tr.FitE s (l.take k) ⟨who,op,a,va,sh⟩ by rw [← hev];exact hG k hlt) hn,fun i hi hGi hni => by
    have hki : k = i:=by
     rcases Nat.lt_trichotomy k i with h | h | h
     ·exact absurd (show Tr.FitE s (l.take k) ⟨who,op,a,va,sh⟩ by rw [← hev];exact hGi k h) hn
     ·exact h
     ·exact absurd (HG.out i h) hni
    subst hki
    exact ⟨rfl,rfl⟩,NB.out.trans ((HBk.out _ hW).mono NB.out.size)⟩
   have HNx : Hid (∀ W,Tr.FitE s (l.take k) ⟨who,op,a,va,sh⟩ → FtM B W b7 b8 b9 b10 s L (l.take k ++ [⟨who,op,a,va,sh⟩]) → FtM B W b7 b8 b9 b10 s L (l.take (k + 1)) ∧ Tr.Gd s l (k + 1)):=fun W hf h => ⟨by rw [take_ev l k hlt,hev];exact h,HG.out.succ (by show Tr.FitE s (l.take k) (Tr.ev l k);rw [hev];exact hf)⟩
   have HRn : Hid (Tr.rnC (l.take (k + 1)) = Tr.rnC (l.take k) + if op = 14 ∧ va ≠ 0 then 1 else 0):=by
    show _ = _
    rw [take_ev l k hlt,hev,Tr.rnC_snoc]
   have hrl : (Tr.rnC (l.take k)) ≤ 40001:=by have:=Tr.rnC_len (l.take k);simp at this;omega
   obtain ⟨rn,hrn⟩ : ∃ rn : Nat,Tr.rnC (l.take k) = rn:=⟨_,rfl⟩
   obtain ⟨rx,hrx⟩ : ∃ rx : Nat,Tr.rnC (l.take (k + 1)) = rx:=⟨_,rfl⟩
   rw [hrx,hrn] at HRn
   rw [hrn] at hrl ⊢
   have HFi : Hid (Tr.FitE s (l.take k) ⟨who,op,a,va,sh⟩ ↔ ((0 ≤ who ∧ who < (rn : Int)) ∧ meB s.rooms.length s.progs.length s.groups s.locks s.cells op a = true ∧ (op = 14 → va = 0 ∨ (va = (rn : Int) ∧ rn < 512)) ∧ (op = 6 → sh = false → Tr.tkC (l.take k) a < Tr.snC (l.take k) a) ∧ (op = 6 → sh = true → Tr.clC (l.take k) a = true) ∧ (op = 8 → Tr.hdC (l.take k) a = none))):=by
    show _ ↔ _
    rw [meB_iff,← hrn]
    exact ⟨fun h => ⟨⟨h.w0,h.w1⟩,⟨h.o0,h.o1,h.a⟩,h.st,h.tk,h.ts,h.lk⟩,fun h => ⟨⟨h.1.1,h.1.2,h.2.1.1,h.2.1.2.1,h.2.1.2.2⟩,h.2.2.1,h.2.2.2.1,h.2.2.2.2.1,h.2.2.2.2.2⟩⟩
   have HMn : Hid (meB s.rooms.length s.progs.length s.groups s.locks s.cells op a = true → ∀ m,Tr.mnC s op = some m → 0 ≤ a ∧ a < m):=fun h => ((meB_iff s op a).1 h).2.2
   have hAl : Below wr.heap.size wr ((wr.alloc (.cells #[.int .i64 0,.int .i64 0,.int .i64 0,.int .i64 0,.bool false] 65)).setRow wr.heap.size #[.int .i64 who,.int .i64 op,.int .i64 a,.int .i64 va,.bool sh]):=below_setRow ((Below.refl _ _).alloc (Nat.le_refl _) _) (Nat.le_refl _)
   have HF1:=TW.hide (HF.out.below hAl)
   have HEb : Hid (((wr.alloc (.cells #[.int .i64 0,.int .i64 0,.int .i64 0,.int .i64 0,.bool false] 65)).setRow wr.heap.size #[.int .i64 who,.int .i64 op,.int .i64 a,.int .i64 va,.bool sh]).heap[wr.heap.size]? = some (.cells #[.int .i64 who,.int .i64 op,.int .i64 a,.int .i64 va,.bool sh] 65 (0,0))):=setRow_heap _ _ _ _ _ _ (heap_alloc_new wr _)
   have HX1 : Hid (Below B X ((wr.alloc (.cells #[.int .i64 0,.int .i64 0,.int .i64 0,.int .i64 0,.bool false] 65)).setRow wr.heap.size #[.int .i64 who,.int .i64 op,.int .i64 a,.int .i64 va,.bool sh])):=HXr.out.trans (hAl.mono (Nat.le_trans (Nat.le_of_lt (Nat.lt_of_le_of_lt HF.out.sn.le HF.out.sn.lt)) (Nat.le_refl _)))
   have HIn : Hid (∀ W,Calls Try.prog 27 #[.int .i64 who,.int .i64 (rn : Int)] W fun e w' => e = .returned (.bool (decide (0 ≤ who ∧ who < (rn : Int)))) ∧ W = w'):=fun W => rinside who (rn : Int) W
   have HMe':=TW.hide (HMe.out who op a va sh)
   obtain ⟨bi,hbi⟩ : ∃ bi,decide (0 ≤ who ∧ who < (rn : Int)) = bi:=⟨_,rfl⟩
   have HBi : Hid (bi = true ↔ (0 ≤ who ∧ who < (rn : Int))):=by show _ ↔ _;rw [← hbi];simp
   rw [hbi] at HIn
   obtain ⟨me,hme⟩ : ∃ me,meB s.rooms.length s.progs.length s.groups s.locks s.cells op a = me:=⟨_,rfl⟩
   rw [hme] at HMe' HFi HMn
   clear hAl hev hlt iw io ia iv hbi hme hrn HMe HF HXr HG
   have HRX : Hid (Tr.rnC (l.take (k + 1)) = rx):=hrx
   have HPl : Hid ((l.take k).length ≤ 40000):=by show _ ≤ _;simp;omega
   clear hrx
   generalize l.take k = p at *
   go_wp2_with (first | (refine wpList_store_row (by rfl) 65 _ _ (by rfl) wr.heap.size #[.int .i64 who,.int .i64 op,.int .i64 a,.int .i64 va,.bool sh] (by rfl) (by rfl) 65 _ (heap_alloc_new wr _) (by kernel_rfl) (by rfl) (by simp [Value.oneCell']) ?_;generalize World.setRow _ _ _ = X4 at *;generalize wr.heap.size = ge at *;clear x0 x1 x2 x3 x4;obtain ⟨x0,x1,x2,x3,x4⟩:=cellsY5 HEb.out) | fail)
   refine (HIn.out X4).mono ?_
   rintro e5 W5 ⟨rfl,rfl⟩
   clear HIn
   cases bi with
   | false =>
    have HNo : Hid (¬ Tr.FitE s p ⟨who,op,a,va,sh⟩):=fun h => by have:=HBi.out.2 (HFi.out.1 h).1;cases this
    have HPp:=TW.hide (HBad.out HNo.out _ HX1.out)
    clear HBad HNx HFi HMn HMe'
    go_wp2
    first | exact HPp.out | exact ⟨rfl,HPp.out⟩
   | true =>
    have y_:=(blk_keep N1.out (HBk.out _ HX1.out))
    obtain ⟨s0,s1,s2,s3,s4⟩:=cellsY5 y_
    clear y_
    go_wp2_with fail
    refine (HMe'.out X4).mono ?_
    rintro e6 W6 ⟨rfl,hb6⟩
    have HF6:=TW.hide (HF1.out.below hb6)
    have HE6:=TW.hide (blk_keep HEb.out hb6)
    have HX6 : Hid (Below B X W6):=HX1.out.trans (hb6.mono (Nat.le_of_lt (Nat.lt_of_le_of_lt HF1.out.sn.le HF1.out.sn.lt)))
    clear hb6 HF1 HEb HX1 HMe' s0 s1 s2 s3 s4 x0 x1 x2 x3 x4
    obtain ⟨x0,x1,x2,x3,x4⟩:=cellsY5 HE6.out
    cases me with
    | false =>
     have HNo : Hid (¬ Tr.FitE s p ⟨who,op,a,va,sh⟩):=fun h => by have:=(HFi.out.1 h).2.1;cases this
     have HPp:=TW.hide (HBad.out HNo.out _ HX6.out)
     clear HBad HNx HFi HMn
     go_wp2
     first | exact HPp.out | exact ⟨rfl,HPp.out⟩
    | true =>
     have hmn:=HMn.out rfl
     clear HMn
     have hrx_ : Tr.rnC (l.take (k + 1)) = rx:=HRX.out
     by_cases h14 : op = 14 ∧ va ≠ 0
     ·have k14 : (op == 14) = true:=by simp [h14.1]
      have kv : (va != 0) = true:=by simp [h14.2]
      by_cases hv : va = (rn : Int) ∧ rn < 512
      ·have hFE : Tr.FitE s p ⟨who,op,a,va,sh⟩:=HFi.out.2 ⟨HBi.out.1 (by trivial),by trivial,fun _ => .inr hv,fun h => by omega,fun h => by omega,fun h => by omega⟩
       have hN:=HNx.out W6 hFE (HF6.out.idle _ (by show op ≠ 5;omega) (fun h => by have h' : op = 6:=h.1;omega) (by show op ≠ 7;omega) (by show op ≠ 8;omega) (by show op ≠ 9;omega))
       have HXn : Hid (Below B X W6):=HX6.out
       have HRn' : Hid (rx = rn + 1):=by show _ = _;rw [HRn.out,if_pos h14]
       have kw : (va != (rn : Int)) = false:=by simp [hv.1]
       have kz : (512 ≤ (rn : Int)) = False:=by simp;omega
       have HN:=TW.hide hN
       clear hN hFE h14 hv HBad HNx HFi HRn hmn HF6
       go_wp2
       go_roundw
       case rel => exact ⟨k + 1,HLT.out,by go_num,by rw [hrx_,HRn'.out];go_num,TW.hide HN.out.1,HXn,TW.hide HN.out.2⟩
       case measure => simp [intOf];have:=HLT.out;omega
      ·by_cases hv1 : va = (rn : Int)
       ·have kw : (va != (rn : Int)) = false:=by simp [hv1]
        have kz : 512 ≤ (rn : Int):=by omega
        have HNo : Hid (¬ Tr.FitE s p ⟨who,op,a,va,sh⟩):=fun h => by rcases (HFi.out.1 h).2.2.1 h14.1 with h1 | h1;exact h14.2 h1;exact hv h1
        have HPp : Hid (∀ W,Below B X W → POST (.returned (.tuple #[.int .i64 (k : Int),.int .i64 0])) W):=HBad.out HNo.out
        clear HBad HNx HFi HNo hmn HF6 h14 hv hv1
        go_wp2
        first | exact HPp.out _ HX6.out | exact ⟨rfl,HPp.out _ HX6.out⟩
       ·have kw : (va != (rn : Int)) = true:=by simp [hv1]
        have HNo : Hid (¬ Tr.FitE s p ⟨who,op,a,va,sh⟩):=fun h => by rcases (HFi.out.1 h).2.2.1 h14.1 with h1 | h1;exact h14.2 h1;exact hv h1
        have HPp : Hid (∀ W,Below B X W → POST (.returned (.tuple #[.int .i64 (k : Int),.int .i64 0])) W):=HBad.out HNo.out
        clear HBad HNx HFi HNo hmn HF6 h14 hv hv1
        go_wp2
        first | exact HPp.out _ HX6.out | exact ⟨rfl,HPp.out _ HX6.out⟩
     have HRn' : Hid (rx = rn):=by show _ = _;rw [HRn.out,if_neg h14];rfl
     clear HRn
     have HW14 : Hid ((op == 14) = false ∨ ((op == 14) = true ∧ (va != 0) = false)):=by
      by_cases h : op = 14
      ·exact .inr ⟨by simp [h],by simp;exact Classical.byContradiction fun hz => h14 ⟨h,hz⟩⟩
      ·exact .inl (by simp [h])
     have HS14 : Hid (op = 14 → va = 0):=fun h => Classical.byContradiction fun hz => h14 ⟨h,hz⟩
     clear h14
     by_cases h5 : op = 5
     ·have k14 : (op == 14) = false:=by simp;omega
      have k5 : (op == 5) = true:=by simp [h5]
      obtain ⟨c,rfl⟩ : ∃ c : Nat,a = (c : Int):=⟨a.toNat,by have:=(hmn _ (by rw [h5];rfl)).1;omega⟩
      have hcl : c < s.rooms.length:=by have:=(hmn _ (by rw [h5];rfl)).2;  omega
      have c0 : (0 : Int) ≤ (c : Int):=by omega
      have c1 : (c : Int) < (s.rooms.length : Int):=by omega
      have hFE : Tr.FitE s p ⟨who,op,(c : Int),va,sh⟩:=HFi.out.2 ⟨HBi.out.1 (by trivial),by trivial,fun h => by omega,fun h => by omega,fun h => by omega,fun h => by omega⟩
      have HZ : Hid (∀ Y,Below W6.heap.size W6 Y → Y.frozen? ⟨b7,c,none⟩ = false ∧ Y.cell? ⟨b7,c,none⟩ = some (.int .i64 (Tr.snC p (c : Int) : Int)) ∧ (FtM B (Y.setCell ⟨b7,c,none⟩ (.int .i64 ((Tr.snC p (c : Int) : Int) + 1))) b7 b8 b9 b10 s L (l.take (k + 1)) ∧ Tr.Gd s l (k + 1)) ∧ Below B X (Y.setCell ⟨b7,c,none⟩ (.int .i64 ((Tr.snC p (c : Int) : Int) + 1)))):=fun Y hY => ⟨(HF6.out.below hY).sn.fz c,(HF6.out.below hY).sn.get c hcl,HNx.out _ hFE ((HF6.out.below hY).s5 _ c h5 rfl),(HX6.out.trans (hY.mono (Nat.le_of_lt (Nat.lt_of_le_of_lt HF6.out.sn.le HF6.out.sn.lt)))).setCell HF6.out.sn.le _⟩
      have ew : IntKind.i64.wrap ((Tr.snC p (c : Int) : Int) + 1) = (Tr.snC p (c : Int) : Int) + 1:=by
       have h1:=Tr.snC_len p (c : Int)
       have h2:=HPl.out
       rw [IntKind.wrap_i64]
       omega
      have y:=(HZ.out W6 (Below.refl _ _)).2.1
      clear h5 hmn hFE hcl HF6 HNx HBad HFi
      generalize (Tr.snC p (c : Int) : Int) = x at *
      go_wp2
      refine wp_region_noPanic ?_
      refine RG.wp_region_L (fun Z => Below W6.heap.size W6 Z) (fun Z => True) [10] (by kernel_rfl) ?_
      refine RG.wpL_any fun Yz27 hY => ?_
      have HBz27 : Hid (Below W6.heap.size W6 Yz27):=by rw [hY];exact below_drewN (Below.refl _ _) 1
      clear hY
      refine RG.wpL_takeS (fuel:=1) (a':=?Az27) [0,1,2,3,4,5,6,7,8,9] (by kernel_rfl) (by kernel_rfl) (fun _ _ _ _ _ h => h) trivial (HBz27.out) ?rz27 ?_
      case rz27 =>
       iterate 2
        refine RG.RunsS.one (v:=?_) (by rfl) (by rfl) (fun Z hT hS => ?_) ?_
        rotate_left
        ·go_simp
         rfl
        simp only [Act.put,lpA,lpZ,lpS,lgT,lgZ,lgS]
       refine RG.RunsS.one (v:=.int .i64 (c : Int)) (by rfl) (by rfl) (fun Z hT hS => ?_) ?_
       ·have x2:=keepC hS x2;have y:=keepC hS y
        go_simp
       simp only [Act.put,lpA,lpZ,lpS,lgT,lgZ,lgS]
       iterate 2
        refine RG.RunsS.one (v:=?_) (by rfl) (by rfl) (fun Z hT hS => ?_) ?_
        rotate_left
        ·go_simp
         rfl
        simp only [Act.put,lpA,lpZ,lpS,lgT,lgZ,lgS]
       refine RG.RunsS.one (v:=.int .i64 (c : Int)) (by rfl) (by rfl) (fun Z hT hS => ?_) ?_
       ·have x2:=keepC hS x2;have y:=keepC hS y
        go_simp
       simp only [Act.put,lpA,lpZ,lpS,lgT,lgZ,lgS]
       refine RG.RunsS.one (v:=?_) (by rfl) (by rfl) (fun Z hT hS => ?_) ?_
       rotate_left
       ·go_simp
        rfl
       simp only [Act.put,lpA,lpZ,lpS,lgT,lgZ,lgS]
       refine RG.RunsS.one (v:=.int .i64 x) (by rfl) (by rfl) (fun Z hT hS => ?_) ?_
       ·have x2:=keepC hS x2;have y:=keepC hS y
        go_simp
       simp only [Act.put,lpA,lpZ,lpS,lgT,lgZ,lgS]
       iterate 2
        refine RG.RunsS.one (v:=?_) (by rfl) (by rfl) (fun Z hT hS => ?_) ?_
        rotate_left
        ·go_simp
         rfl
        simp only [Act.put,lpA,lpZ,lpS,lgT,lgZ,lgS]
       exact RG.RunsS.nil
      obtain ⟨fz,cz,hN,hXn⟩:=HZ.out Yz27 HBz27.out
      have HN:=TW.hide hN
      have HXn:=TW.hide hXn
      clear hN hXn
      refine RG.wpL_late (i:=10) (by kernel_rfl) (by rfl) (by rfl) (by kernel_rfl) (fun KX hK => ?_)
      have HK:=TW.hide hK
      clear hK
      go_simp
      refine HK.out _ _ trivial ?_
      clear HK KX cz fz
      refine RG.wpL_done (by kernel_rfl) ?_ _
      refine NoPanic.normal ?_
      go_wp2
      go_roundw
      case rel => exact ⟨k + 1,HLT.out,by go_num,by rw [hrx_,HRn'.out],TW.hide HN.out.1,HXn,TW.hide HN.out.2⟩
      case measure => simp [intOf];have:=HLT.out;omega
     by_cases h6 : op = 6
     ·have k6 : (op == 6) = true:=by simp [h6]
      have k14 : (op == 14) = false:=by simp;omega
      have k5 : (op == 5) = false:=by simp;omega
      obtain ⟨c,rfl⟩ : ∃ c : Nat,a = (c : Int):=⟨a.toNat,by have:=(hmn _ (by rw [h6];rfl)).1;omega⟩
      have hcl : c < s.rooms.length:=by have:=(hmn _ (by rw [h6];rfl)).2;  omega
      have c0 : (0 : Int) ≤ (c : Int):=by omega
      have c1 : (c : Int) < (s.rooms.length : Int):=by omega
      cases sh with
      | true =>
       have y:=HF6.out.cl.get c hcl
       unfold clV at y
       have HCl : Hid (Tr.FitE s p ⟨who,op,(c : Int),va,true⟩ ↔ Tr.clC p (c : Int) = true):=⟨fun h => (HFi.out.1 h).2.2.2.2.1 h6 rfl,fun h => HFi.out.2 ⟨HBi.out.1 (by trivial),by trivial,fun h => by omega,fun _ h => (by cases h),fun _ _ => h,fun h => by omega⟩⟩
       have HId:=TW.hide (HF6.out.idle ⟨who,op,(c : Int),va,true⟩ (by show op ≠ 5;omega) (fun h => by cases h.2) (by show op ≠ 7;omega) (by show op ≠ 8;omega) (by show op ≠ 9;omega))
       clear hmn hcl h6 HFi HF6
       generalize Tr.clC p (c : Int) = cl at *
       cases cl with
       | true =>
        have HN:=TW.hide (HNx.out W6 (HCl.out.2 rfl) HId.out)
        have HXn:=HX6
        clear HNx HBad HCl HId
        go_wp2
        go_roundw
        case rel => exact ⟨k + 1,HLT.out,by go_num,by rw [hrx_,HRn'.out],TW.hide HN.out.1,HXn,TW.hide HN.out.2⟩
        case measure => simp [intOf];have:=HLT.out;omega
       | false =>
        have HNo : Hid (¬ Tr.FitE s p ⟨who,op,(c : Int),va,true⟩):=fun h => by have:=HCl.out.1 h;cases this
        have HPp : Hid (∀ W,Below B X W → POST (.returned (.tuple #[.int .i64 (k : Int),.int .i64 0])) W):=HBad.out HNo.out
        clear HNx HBad HCl HId HNo
        go_wp2
        first | exact HPp.out _ HX6.out | exact ⟨rfl,HPp.out _ HX6.out⟩
      | false =>
       have HCl : Hid (Tr.FitE s p ⟨who,op,(c : Int),va,false⟩ ↔ Tr.tkC p (c : Int) < Tr.snC p (c : Int)):=⟨fun h => (HFi.out.1 h).2.2.2.1 h6 rfl,fun h => HFi.out.2 ⟨HBi.out.1 (by trivial),by trivial,fun h => by omega,fun _ _ => h,fun _ h => (by cases h),fun h => by omega⟩⟩
       have HZ : Hid (Tr.FitE s p ⟨who,op,(c : Int),va,false⟩ → ∀ Y,Below W6.heap.size W6 Y → Y.frozen? ⟨b8,c,none⟩ = false ∧ Y.cell? ⟨b8,c,none⟩ = some (.int .i64 (Tr.tkC p (c : Int) : Int)) ∧ (FtM B (Y.setCell ⟨b8,c,none⟩ (.int .i64 ((Tr.tkC p (c : Int) : Int) + 1))) b7 b8 b9 b10 s L (l.take (k + 1)) ∧ Tr.Gd s l (k + 1)) ∧ Below B X (Y.setCell ⟨b8,c,none⟩ (.int .i64 ((Tr.tkC p (c : Int) : Int) + 1)))):=fun hFE Y hY => ⟨(HF6.out.below hY).tk.fz c,(HF6.out.below hY).tk.get c hcl,HNx.out _ hFE ((HF6.out.below hY).s6 _ c h6 rfl rfl),(HX6.out.trans (hY.mono (Nat.le_of_lt (Nat.lt_of_le_of_lt HF6.out.sn.le HF6.out.sn.lt)))).setCell HF6.out.tk.le _⟩
       have ew : IntKind.i64.wrap ((Tr.tkC p (c : Int) : Int) + 1) = (Tr.tkC p (c : Int) : Int) + 1:=by
        have h1:=Tr.tkC_len p (c : Int)
        have h2:=HPl.out
        rw [IntKind.wrap_i64]
        omega
       have y8:=HF6.out.tk.get c hcl
       have y7:=HF6.out.sn.get c hcl
       unfold tkV at y8
       unfold snV at y7
       clear hmn hcl h6 HFi HF6 HNx
       by_cases hts : Tr.tkC p (c : Int) < Tr.snC p (c : Int)
       ·have HZ':=TW.hide (HZ.out (HCl.out.2 hts))
        have kts : ((Tr.snC p (c : Int) : Int) ≤ (Tr.tkC p (c : Int) : Int)) = False:=by simp;omega
        clear HZ HCl HBad hts
        generalize (Tr.tkC p (c : Int) : Int) = x at *
        generalize (Tr.snC p (c : Int) : Int) = y at *
        go_wp2
        go_quiet (fail)
        go_wp2
        have HQ : Hid (Below W6.heap.size W6 (W6.drewN nq)):=below_drewN (Below.refl _ _) _
        generalize W6.drewN nq = W7 at *
        have x2_:=keepC HQ.out x2
        have y8_:=keepC HQ.out y8
        clear x0 x1 x2 x3 x4 y7 y8
        refine wp_region_noPanic ?_
        refine RG.wp_region_L (fun Z => Below W7.heap.size W7 Z) (fun Z => True) [10] (by kernel_rfl) ?_
        refine RG.wpL_any fun Yz28 hY => ?_
        have HBz28 : Hid (Below W7.heap.size W7 Yz28):=by rw [hY];exact below_drewN (Below.refl _ _) 1
        clear hY
        refine RG.wpL_takeS (fuel:=1) (a':=?Az28) [0,1,2,3,4,5,6,7,8,9] (by kernel_rfl) (by kernel_rfl) (fun _ _ _ _ _ h => h) trivial (HBz28.out) ?rz28 ?_
        case rz28 =>
         iterate 2
          refine RG.RunsS.one (v:=?_) (by rfl) (by rfl) (fun Z hT hS => ?_) ?_
          rotate_left
          ·go_simp
           rfl
          simp only [Act.put,lpA,lpZ,lpS,lgT,lgZ,lgS]
         refine RG.RunsS.one (v:=.int .i64 (c : Int)) (by rfl) (by rfl) (fun Z hT hS => ?_) ?_
         ·have x2:=keepC hS x2_;have y8:=keepC hS y8_
          go_simp
         simp only [Act.put,lpA,lpZ,lpS,lgT,lgZ,lgS]
         iterate 2
          refine RG.RunsS.one (v:=?_) (by rfl) (by rfl) (fun Z hT hS => ?_) ?_
          rotate_left
          ·go_simp
           rfl
          simp only [Act.put,lpA,lpZ,lpS,lgT,lgZ,lgS]
         refine RG.RunsS.one (v:=.int .i64 (c : Int)) (by rfl) (by rfl) (fun Z hT hS => ?_) ?_
         ·have x2:=keepC hS x2_;have y8:=keepC hS y8_
          go_simp
         simp only [Act.put,lpA,lpZ,lpS,lgT,lgZ,lgS]
         refine RG.RunsS.one (v:=?_) (by rfl) (by rfl) (fun Z hT hS => ?_) ?_
         rotate_left
         ·go_simp
          rfl
         simp only [Act.put,lpA,lpZ,lpS,lgT,lgZ,lgS]
         refine RG.RunsS.one (v:=.int .i64 x) (by rfl) (by rfl) (fun Z hT hS => ?_) ?_
         ·have x2:=keepC hS x2_;have y8:=keepC hS y8_
          go_simp
         simp only [Act.put,lpA,lpZ,lpS,lgT,lgZ,lgS]
         iterate 2
          refine RG.RunsS.one (v:=?_) (by rfl) (by rfl) (fun Z hT hS => ?_) ?_
          rotate_left
          ·go_simp
           rfl
          simp only [Act.put,lpA,lpZ,lpS,lgT,lgZ,lgS]
         exact RG.RunsS.nil
        obtain ⟨fz,cz,hN,hXn⟩:=HZ'.out Yz28 (HQ.out.trans (HBz28.out.mono HQ.out.size))
        have HN:=TW.hide hN
        have HXn:=TW.hide hXn
        clear hN hXn
        refine RG.wpL_late (i:=10) (by kernel_rfl) (by rfl) (by rfl) (by kernel_rfl) (fun KX hK => ?_)
        have HK:=TW.hide hK
        clear hK
        go_simp
        refine HK.out _ _ trivial ?_
        clear HK KX cz fz
        refine RG.wpL_done (by kernel_rfl) ?_ _
        refine NoPanic.normal ?_
        go_wp2
        go_roundw
        case rel => exact ⟨k + 1,HLT.out,by go_num,by rw [hrx_,HRn'.out],TW.hide HN.out.1,HXn,TW.hide HN.out.2⟩
        case measure => simp [intOf];have:=HLT.out;omega
       ·have HNo : Hid (¬ Tr.FitE s p ⟨who,op,(c : Int),va,false⟩):=fun h => hts (HCl.out.1 h)
        have HPp : Hid (∀ W,Below B X W → POST (.returned (.tuple #[.int .i64 (k : Int),.int .i64 0])) W):=HBad.out HNo.out
        have kts : (Tr.snC p (c : Int) : Int) ≤ (Tr.tkC p (c : Int) : Int):=by omega
        clear HZ HCl HBad hts HNo
        generalize (Tr.tkC p (c : Int) : Int) = x at *
        generalize (Tr.snC p (c : Int) : Int) = y at *
        go_wp2
        go_quiet (fail)
        go_wp2
        have HXq : Hid (Below B X (W6.drewN nq)):=below_drewN HX6.out _
        first | exact HPp.out _ HXq.out | exact ⟨rfl,HPp.out _ HXq.out⟩
     by_cases h7 : op = 7
     ·have k7 : (op == 7) = true:=by simp [h7]
      have k14 : (op == 14) = false:=by simp;omega
      have k5 : (op == 5) = false:=by simp;omega
      have k6 : (op == 6) = false:=by simp;omega
      obtain ⟨c,rfl⟩ : ∃ c : Nat,a = (c : Int):=⟨a.toNat,by have:=(hmn _ (by rw [h7];rfl)).1;omega⟩
      have hcl : c < s.rooms.length:=by have:=(hmn _ (by rw [h7];rfl)).2;  omega
      have c0 : (0 : Int) ≤ (c : Int):=by omega
      have c1 : (c : Int) < (s.rooms.length : Int):=by omega
      have hFE : Tr.FitE s p ⟨who,op,(c : Int),va,sh⟩:=HFi.out.2 ⟨HBi.out.1 (by trivial),by trivial,fun h => by omega,fun h => by omega,fun h => by omega,fun h => by omega⟩
      have HN:=TW.hide (HNx.out _ hFE (HF6.out.s7 _ c h7 rfl))
      have HXn : Hid (Below B X (W6.setCell ⟨b9,c,none⟩ (.bool true))):=HX6.out.setCell HF6.out.cl.le _
      have fz:=HF6.out.cl.fz c
      have cz:=HF6.out.cl.get c hcl
      unfold clV at cz
      clear hmn hcl h7 HFi HF6 HNx HBad hFE
      go_wp2
      go_roundw
      case rel => exact ⟨k + 1,HLT.out,by go_num,by rw [hrx_,HRn'.out],TW.hide HN.out.1,HXn,TW.hide HN.out.2⟩
      case measure => simp [intOf];have:=HLT.out;omega
     by_cases h8 : op = 8
     ·have k8 : (op == 8) = true:=by simp [h8]
      have k14 : (op == 14) = false:=by simp;omega
      have k5 : (op == 5) = false:=by simp;omega
      have k6 : (op == 6) = false:=by simp;omega
      have k7 : (op == 7) = false:=by simp;omega
      obtain ⟨c,rfl⟩ : ∃ c : Nat,a = (c : Int):=⟨a.toNat,by have:=(hmn _ (by rw [h8];rfl)).1;omega⟩
      have hcl : c < L:=by have:=(hmn _ (by rw [h8];rfl)).2;have:=HL.out;omega
      have c0 : (0 : Int) ≤ (c : Int):=by omega
      have c1 : (c : Int) < (L : Int):=by omega
      have HCl : Hid (Tr.FitE s p ⟨who,op,(c : Int),va,sh⟩ ↔ (Tr.hdC p (c : Int)).isSome = false):=by
       show _ ↔ _
       rw [Option.isSome_eq_false_iff,Option.isNone_iff_eq_none]
       exact ⟨fun h => (HFi.out.1 h).2.2.2.2.2 h8,fun h => HFi.out.2 ⟨HBi.out.1 (by trivial),by trivial,fun h => by omega,fun h => by omega,fun h => by omega,fun _ => h⟩⟩
      have HZ : Hid (Tr.FitE s p ⟨who,op,(c : Int),va,sh⟩ → (FtM B (W6.setCell ⟨b10,c,none⟩ (.bool true)) b7 b8 b9 b10 s L (l.take (k + 1)) ∧ Tr.Gd s l (k + 1))):=fun hFE => HNx.out _ hFE (HF6.out.s8 _ c h8 rfl)
      have HXn : Hid (Below B X (W6.setCell ⟨b10,c,none⟩ (.bool true))):=HX6.out.setCell HF6.out.hd.le _
      have fz:=HF6.out.hd.fz c
      have cz:=HF6.out.hd.get c hcl
      unfold hdV at cz
      clear hmn hcl h8 HFi HF6 HNx
      generalize (Tr.hdC p (c : Int)).isSome = hd at *
      cases hd with
      | false =>
       have HN:=TW.hide (HZ.out (HCl.out.2 rfl))
       clear HZ HCl HBad
       go_wp2
       go_roundw
       case rel => exact ⟨k + 1,HLT.out,by go_num,by rw [hrx_,HRn'.out],TW.hide HN.out.1,HXn,TW.hide HN.out.2⟩
       case measure => simp [intOf];have:=HLT.out;omega
      | true =>
       have HNo : Hid (¬ Tr.FitE s p ⟨who,op,(c : Int),va,sh⟩):=fun h => by have:=HCl.out.1 h;cases this
       have HPp : Hid (∀ W,Below B X W → POST (.returned (.tuple #[.int .i64 (k : Int),.int .i64 0])) W):=HBad.out HNo.out
       clear HZ HCl HBad HNo HXn
       go_wp2
       first | exact HPp.out _ HX6.out | exact ⟨rfl,HPp.out _ HX6.out⟩
     by_cases h9 : op = 9
     ·have k9 : (op == 9) = true:=by simp [h9]
      have k14 : (op == 14) = false:=by simp;omega
      have k5 : (op == 5) = false:=by simp;omega
      have k6 : (op == 6) = false:=by simp;omega
      have k7 : (op == 7) = false:=by simp;omega
      have k8 : (op == 8) = false:=by simp;omega
      obtain ⟨c,rfl⟩ : ∃ c : Nat,a = (c : Int):=⟨a.toNat,by have:=(hmn _ (by rw [h9];rfl)).1;omega⟩
      have hcl : c < L:=by have:=(hmn _ (by rw [h9];rfl)).2;have:=HL.out;omega
      have c0 : (0 : Int) ≤ (c : Int):=by omega
      have c1 : (c : Int) < (L : Int):=by omega
      have hFE : Tr.FitE s p ⟨who,op,(c : Int),va,sh⟩:=HFi.out.2 ⟨HBi.out.1 (by trivial),by trivial,fun h => by omega,fun h => by omega,fun h => by omega,fun h => by omega⟩
      have HN:=TW.hide (HNx.out _ hFE (HF6.out.s9 _ c h9 rfl))
      have HXn : Hid (Below B X (W6.setCell ⟨b10,c,none⟩ (.bool false))):=HX6.out.setCell HF6.out.hd.le _
      have fz:=HF6.out.hd.fz c
      have cz:=HF6.out.hd.get c hcl
      unfold hdV at cz
      clear hmn hcl h9 HFi HF6 HNx HBad hFE
      go_wp2
      go_roundw
      case rel => exact ⟨k + 1,HLT.out,by go_num,by rw [hrx_,HRn'.out],TW.hide HN.out.1,HXn,TW.hide HN.out.2⟩
      case measure => simp [intOf];have:=HLT.out;omega
     have hFE : Tr.FitE s p ⟨who,op,a,va,sh⟩:=HFi.out.2 ⟨HBi.out.1 (by trivial),by trivial,fun h => .inl (HS14.out h),fun h => absurd h h6,fun h => absurd h h6,fun h => absurd h h8⟩
     have HN:=TW.hide (HNx.out _ hFE (HF6.out.idle _ h5 (fun h => h6 h.1) h7 h8 h9))
     have HXn:=HX6
     have k5 : (op == 5) = false:=by simp [h5]
     have k6 : (op == 6) = false:=by simp [h6]
     have k7 : (op == 7) = false:=by simp [h7]
     have k8 : (op == 8) = false:=by simp [h8]
     have k9 : (op == 9) = false:=by simp [h9]
     have H14:=HW14
     clear HW14 h5 h6 h7 h8 h9 HFi HF6 HNx HBad hFE hmn
     rcases H14.out with k14 | ⟨k14,kv⟩
     ·clear H14
      go_wp2
      go_roundw
      case rel => exact ⟨k + 1,HLT.out,by go_num,by rw [hrx_,HRn'.out],TW.hide HN.out.1,HXn,TW.hide HN.out.2⟩
      case measure => simp [intOf];have:=HLT.out;omega
     ·clear H14
      go_wp2
      go_roundw
      case rel => exact ⟨k + 1,HLT.out,by go_num,by rw [hrx_,HRn'.out],TW.hide HN.out.1,HXn,TW.hide HN.out.2⟩
      case measure => simp [intOf];have:=HLT.out;omega
  ·have hkn : l.length = k:=by omega
   have kk : ((k : Int) < (l.length : Int)) = False:=by simp;omega
   have HPp : Hid (∀ W,Below B X W → POST (.returned (.tuple #[.int .i64 (-1),.int .i64 (Tr.rnC (l.take k) : Int)])) W):=fun W hW => HPo.out _ _ ⟨-1,_,rfl,fun _ => ⟨rfl,by rw [List.take_of_length_le (by omega)]⟩,fun i hi hGi hni => absurd (HG.out i (by omega)) hni,NB.out.trans ((HBk.out _ hW).mono NB.out.size)⟩
   have HPq:=TW.hide (HPp.out _ HXr.out)
   clear hkn HPp HG HF
   go_wp2
   first | exact HPq.out | exact ⟨rfl,HPq.out⟩
end LW
end Go.Proofs.Ythcndgnpmefefaa
