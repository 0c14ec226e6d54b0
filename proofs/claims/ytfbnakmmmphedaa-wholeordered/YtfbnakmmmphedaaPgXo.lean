/-
 What the program's Valid gives: the whole.
-/
import Derived.Test.YtfbnakmmmphedaaPgWo
set_option linter.unusedVariables false
set_option linter.unusedSimpArgs false
set_option maxRecDepth 100000
set_option maxHeartbeats 4000000
namespace Go.Proofs.Ytfbnakmmmphedaa
open Go.RowKit
namespace LW
open Mc
structure SzOk (s : Syst) : Prop where
 p1 : 1 ≤ s.progs.length
 p2 : s.progs.length ≤ 64
 r1 : s.rooms.length ≤ 64
 g1 : 0 ≤ s.groups ∧ s.groups ≤ 64
 l1 : 0 ≤ s.locks ∧ s.locks ≤ 64
 c1 : 0 ≤ s.cells ∧ s.cells ≤ 64
 rm : ∀ i,i < s.rooms.length → 1 ≤ s.rooms.getD i 0 ∧ s.rooms.getD i 0 ≤ 1024
 pl : ∀ p,p < s.progs.length → (s.progs.getD p []).length ≤ 256
theorem psizes (s : Syst) (pa : Option Addr) (pc : Nat) (ra : Option Addr) (rc n r : Nat) (w : World) (hS : SM w s pa ra) (hn : s.progs.length = n) (hr : s.rooms.length = r) (hn1 : n ≤ 9223372036854775807) (hr1 : r ≤ 9223372036854775807) :
  Calls Try.prog 23 #[.agg #[.slice pa n pc,.slice ra r rc,.int .i64 s.groups,.int .i64 s.locks,.int .i64 s.cells]] w (RiP (SzOk s) w):=by
 have n0:=heap_alloc_new w (.cells #[.slice pa n pc,.slice ra r rc,.int .i64 s.groups,.int .i64 s.locks,.int .i64 s.cells] 30)
 have hb0:=(Below.refl w.heap.size w).alloc (Nat.le_refl _) (.cells #[.slice pa n pc,.slice ra r rc,.int .i64 s.groups,.int .i64 s.locks,.int .i64 s.cells] 30)
 have XS:=ζ n0
 have NB:=ζ hb0
 have HM:=ζ (hS.below hb0)
 obtain ⟨Z,hZ⟩ : ∃ Z,Z = SzOk s:=⟨_,rfl⟩
 have HZ:=ζ hZ
 rw [← hZ]
 have HN:=ζ hn
 have HRn:=ζ hr
 clear n0 hb0 hS hZ hn hr
 go_enter Try.func23,Try.ntmps23
 refine wp_seq_k fun K hK => ?_
 have HK:=ζ hK
 clear hK
 go_wp2_with fail
 refine HK.out _ _ ?_
 clear HK K
 generalize w.alloc _ = X at *
 obtain ⟨y0,y1,y2,y3,y4⟩:=cellsY5 XS.out
 obtain ⟨b1,hb1⟩ : ∃ b,decide ((1 : Int) ≤ (n : Int) ∧ (n : Int) ≤ (64 : Int)) = b:=⟨_,rfl⟩
 have HW1 : Hid (∀ W,Calls Try.prog 36 #[.int .i64 (n : Int),.int .i64 1,.int .i64 64] W fun e w' => e = .returned (.bool b1) ∧ W = w'):=fun W => by rw [← hb1];exact pwithin (n : Int) 1 64 W
 have HD1 : Hid (b1 = true ↔ ((1 : Int) ≤ (n : Int) ∧ (n : Int) ≤ (64 : Int))):=by show _ ↔ _;rw [← hb1];simp
 clear hb1
 refine wp_seq_k fun K hK => ?_
 have HK:=ζ hK
 clear hK
 go_wp2_with fail
 refine (HW1.out _).mono ?_
 rintro e_1 w_1 ⟨rfl,rfl⟩
 cases b1 with
 | false =>
  have HNo : Hid (¬ Z):=fun hz => by
   rw [HZ.out] at hz;have h2:=HD1.out.2 (by have:=hz.p1;have:=hz.p2;have:=HN.out;omega);cases h2
  go_wp2;go_ret;exact ⟨false,rfl,⟨fun h => (by cases h),fun h => absurd h HNo.out⟩,NB.out⟩
 | true =>
  by_cases q3 : 64 < r
  ·have k3 : (64 : Int) < (r : Int):=by omega
   have HNo : Hid (¬ Z):=fun hz => by
    rw [HZ.out] at hz;have:=hz.r1;have:=HRn.out;omega
   go_wp2;go_ret;exact ⟨false,rfl,⟨fun h => (by cases h),fun h => absurd h HNo.out⟩,NB.out⟩
  have k3 : ¬ (64 : Int) < (r : Int):=by omega
  go_wp2;refine HK.out _ _ ?_;clear HK K k3;refine wp_seq_k fun K hK => ?_
  have HK:=ζ hK
  clear hK;go_wp2;go_loopw [21] (fun i wr => ∃ k : Nat,k ≤ n ∧ i = .int .i64 (k : Int) ∧ Hid (∀ q,q < k → (s.progs.getD q []).length ≤ 256) ∧ wr = X) (fun i wr => n - (intOf i).toNat)
  case atStart => exact ⟨0,Nat.zero_le _,rfl,ζ (fun q hq => by omega),rfl⟩
  case round =>
   obtain ⟨k,hk,rfl,HQ,hwX⟩:=hrel
   by_cases hlt : k < n
   ·have hk1 : (k : Int) < (n : Int):=by omega
    have hk0 : (0 : Int) ≤ (k : Int):=by omega
    obtain ⟨b,off,rfl,A,KA,hpc⟩ : ∃ b off,pa = some ⟨b,off,none⟩ ∧ ∃ A KA,X.cell? ⟨b,off + k,none⟩ = some (.slice A (s.progs.getD k []).length KA):=by
     rcases HM.out.pr with h | ⟨b,off,e,hc⟩
     ·exfalso;have:=HN.out;rw [h] at this;simp at this;omega
     ·obtain ⟨A,K,h1,h2⟩:=hc k (by rw [HN.out];exact hlt)
      exact ⟨b,off,e,A,K,h1⟩
    have HPm : Hid (Z → (s.progs.getD k []).length ≤ 256):=fun hz => by
     rw [HZ.out] at hz;exact hz.pl k (by rw [HN.out];exact hlt)
    have HKK:=ζ hlt
    subst hwX;generalize hrv : (s.progs.getD k []).length = v at *;have HRV:=ζ hrv
    clear hlt hrv;by_cases v2 : 256 < v
    ·have HNo : Hid (¬ Z):=fun hz => by have:=HPm.out hz;omega
     have v3 : (256 : Int) < (v : Int):=by omega
     go_wp2;go_ret;exact ⟨false,rfl,⟨fun h => (by cases h),fun h => absurd h HNo.out⟩,NB.out⟩
    ·have v3 : ¬ (256 : Int) < (v : Int):=by omega
     have HV2:=ζ v2
     clear v2;go_wp2;go_roundw
     case rel =>
      refine ⟨k + 1,HKK.out,by go_num,ζ (fun q hq => ?_),by trivial⟩
      rcases Nat.lt_or_ge q k with h | h
      ·exact HQ.out q h
      ·obtain rfl : q = k:=by omega
       rw [HRV.out];have:=HV2.out;omega
     case measure => simp [intOf];have:=HKK.out;omega
   ·have hkr : n = k:=by omega
    subst hkr;have hXw : X = wr:=hwX.symm
    clear hwX;subst hXw;have HQP:=ζ HQ.out
    clear HQ;go_wp2;refine HK.out _ _ ?_;clear HK;refine wp_seq_k fun K hK => ?_
    have HK:=ζ hK
    clear hK;go_wp2;go_loopw [32] (fun i wr => ∃ k : Nat,k ≤ r ∧ i = .int .i64 (k : Int) ∧ Hid (∀ q,q < k → 1 ≤ s.rooms.getD q 0 ∧ s.rooms.getD q 0 ≤ 1024) ∧ wr = X) (fun i wr => r - (intOf i).toNat)
    case atStart => exact ⟨0,Nat.zero_le _,rfl,ζ (fun q hq => by omega),rfl⟩
    case round =>
     obtain ⟨k,hk,rfl,HQ,hwX⟩:=hrel
     by_cases hlt : k < r
     ·have hk1 : (k : Int) < (r : Int):=by omega
      have hk0 : (0 : Int) ≤ (k : Int):=by omega
      obtain ⟨b,off,rfl,hrc⟩ : ∃ b off,ra = some ⟨b,off,none⟩ ∧ X.cell? ⟨b,off + k,none⟩ = some (.int .i64 (s.rooms.getD k 0)):=by
       rcases HM.out.rm with h | ⟨b,off,e,hc⟩
       ·exfalso;have:=HRn.out;rw [h] at this;simp at this;omega
       ·exact ⟨b,off,e,hc k (by rw [HRn.out];exact hlt)⟩
      have HRm : Hid (Z → 1 ≤ s.rooms.getD k 0 ∧ s.rooms.getD k 0 ≤ 1024):=fun hz => by
       rw [HZ.out] at hz;exact hz.rm k (by rw [HRn.out];exact hlt)
      have HKK:=ζ hlt
      subst hwX;generalize hrv : s.rooms.getD k 0 = v at *;have HRV:=ζ hrv
      clear hlt hrv;obtain ⟨br,hbr⟩ : ∃ b,decide ((1 : Int) ≤ v ∧ v ≤ (1024 : Int)) = b:=⟨_,rfl⟩
      have HWr : Hid (∀ W,Calls Try.prog 36 #[.int .i64 v,.int .i64 1,.int .i64 1024] W fun e w' => e = .returned (.bool br) ∧ W = w'):=fun W => by rw [← hbr];exact pwithin v 1 1024 W
      have HDr : Hid (br = true ↔ ((1 : Int) ≤ v ∧ v ≤ (1024 : Int))):=by show _ ↔ _;rw [← hbr];simp
      clear hbr;go_wp2_with fail
      refine (HWr.out _).mono ?_
      rintro e_r w_r ⟨rfl,rfl⟩
      cases br with
      | false =>
       have HNo : Hid (¬ Z):=fun hz => by
        have h2:=HDr.out.2 (HRm.out hz)
        cases h2
       go_wp2;go_ret;exact ⟨false,rfl,⟨fun h => (by cases h),fun h => absurd h HNo.out⟩,NB.out⟩
      | true =>
       go_wp2;go_roundw
       case rel =>
        refine ⟨k + 1,HKK.out,by go_num,ζ (fun q hq => ?_),by trivial⟩
        rcases Nat.lt_or_ge q k with h | h
        ·exact HQ.out q h
        ·obtain rfl : q = k:=by omega
         rw [HRV.out];exact HDr.out.1 (by trivial)
       case measure => simp [intOf];have:=HKK.out;omega
     ·have hkr : r = k:=by omega
      subst hkr;have hXw : X = wr:=hwX.symm
      clear hwX;subst hXw;have HQR:=ζ HQ.out
      clear HQ;go_wp2;refine HK.out _ _ ?_;clear HK;obtain ⟨bg,hbg⟩ : ∃ b,decide ((0 : Int) ≤ s.groups ∧ s.groups ≤ (64 : Int)) = b:=⟨_,rfl⟩
      have HWg : Hid (∀ W,Calls Try.prog 36 #[.int .i64 s.groups,.int .i64 0,.int .i64 64] W fun e w' => e = .returned (.bool bg) ∧ W = w'):=fun W => by rw [← hbg];exact pwithin s.groups 0 64 W
      have HDg : Hid (bg = true ↔ ((0 : Int) ≤ s.groups ∧ s.groups ≤ (64 : Int))):=by show _ ↔ _;rw [← hbg];simp
      clear hbg;obtain ⟨bl,hbl⟩ : ∃ b,decide ((0 : Int) ≤ s.locks ∧ s.locks ≤ (64 : Int)) = b:=⟨_,rfl⟩
      have HWl : Hid (∀ W,Calls Try.prog 36 #[.int .i64 s.locks,.int .i64 0,.int .i64 64] W fun e w' => e = .returned (.bool bl) ∧ W = w'):=fun W => by rw [← hbl];exact pwithin s.locks 0 64 W
      have HDl : Hid (bl = true ↔ ((0 : Int) ≤ s.locks ∧ s.locks ≤ (64 : Int))):=by show _ ↔ _;rw [← hbl];simp
      clear hbl;obtain ⟨bc,hbc⟩ : ∃ b,decide ((0 : Int) ≤ s.cells ∧ s.cells ≤ (64 : Int)) = b:=⟨_,rfl⟩
      have HWc : Hid (∀ W,Calls Try.prog 36 #[.int .i64 s.cells,.int .i64 0,.int .i64 64] W fun e w' => e = .returned (.bool bc) ∧ W = w'):=fun W => by rw [← hbc];exact pwithin s.cells 0 64 W
      have HDc : Hid (bc = true ↔ ((0 : Int) ≤ s.cells ∧ s.cells ≤ (64 : Int))):=by show _ ↔ _;rw [← hbc];simp
      clear hbc;go_wp2_with fail
      refine (HWg.out _).mono ?_
      rintro e_g w_g ⟨rfl,rfl⟩
      cases bg with
      | false =>
       have HNo : Hid (¬ Z):=fun hz => by
        rw [HZ.out] at hz;have h2:=HDg.out.2 hz.g1;cases h2
       go_wp2;go_ret;exact ⟨false,rfl,⟨fun h => (by cases h),fun h => absurd h HNo.out⟩,NB.out⟩
      | true =>
       go_wp2_with fail
       refine (HWl.out _).mono ?_
       rintro e_l w_l ⟨rfl,rfl⟩
       cases bl with
       | false =>
        have HNo : Hid (¬ Z):=fun hz => by
         rw [HZ.out] at hz;have h2:=HDl.out.2 hz.l1;cases h2
        go_wp2;go_ret;exact ⟨false,rfl,⟨fun h => (by cases h),fun h => absurd h HNo.out⟩,NB.out⟩
       | true =>
        go_wp2_with fail
        refine (HWc.out _).mono ?_
        rintro e_c w_c ⟨rfl,rfl⟩
        cases bc with
        | false =>
         have HNo : Hid (¬ Z):=fun hz => by
          rw [HZ.out] at hz;have h2:=HDc.out.2 hz.c1;cases h2
         go_wp2;go_ret;exact ⟨false,rfl,⟨fun h => (by cases h),fun h => absurd h HNo.out⟩,NB.out⟩
        | true =>
         have HYes : Hid Z:=by
          show Z
          rw [HZ.out];have e1:=HN.out
          have e2:=HRn.out
          have e3:=HD1.out.1 (by trivial)
          exact ⟨by omega,by omega,by omega,HDg.out.1 (by trivial),HDl.out.1 (by trivial),HDc.out.1 (by trivial),fun i hi => HQR.out i (by omega),fun q hq => HQP.out q (by omega)⟩
         go_wp2;go_ret;exact ⟨true,rfl,⟨fun _ => HYes.out,fun _ => rfl⟩,NB.out⟩
theorem pvalid1 (s : Syst) (pa : Option Addr) (pc : Nat) (ra : Option Addr) (rc n r : Nat) (w : World) (hS : SyI w s pa ra) (hn : s.progs.length = n) (hr : s.rooms.length = r) :
  Calls Try.prog 12 #[.agg #[.slice pa n pc,.slice ra r rc,.int .i64 s.groups,.int .i64 s.locks,.int .i64 s.cells]] w fun e w' => ∃ x : Int,e = .returned (.int .i64 x) ∧ (Ok s → x = 0) ∧ (¬ Ok s → x = 130) ∧ Below w.heap.size w w':=by
 have n0:=heap_alloc_new w (.cells #[.slice pa n pc,.slice ra r rc,.int .i64 s.groups,.int .i64 s.locks,.int .i64 s.cells] 30)
 have hb0:=(Below.refl w.heap.size w).alloc (Nat.le_refl _) (.cells #[.slice pa n pc,.slice ra r rc,.int .i64 s.groups,.int .i64 s.locks,.int .i64 s.cells] 30)
 have XS0:=ζ n0
 have NB0:=ζ hb0
 have hn1 : n ≤ 9223372036854775807:=by have:=hS.pn;omega
 have hr1 : r ≤ 9223372036854775807:=by have:=hS.rn;omega
 have HM0:=ζ (hS.sm.below hb0)
 have HPs : Hid (∀ W,SM W s pa ra → Calls Try.prog 23 #[.agg #[.slice pa n pc,.slice ra r rc,.int .i64 s.groups,.int .i64 s.locks,.int .i64 s.cells]] W (RiP (SzOk s) W)):=fun W hW => psizes s pa pc ra rc n r W hW hn hr hn1 hr1
 obtain ⟨Z,hZ⟩ : ∃ Z,Z = Ok s:=⟨_,rfl⟩
 have HZ:=ζ hZ
 rw [← hZ]
 have HNi:=ζ hS.ni
 have HN:=ζ hn
 have HRn:=ζ hr
 clear n0 hb0 hS hZ hn hr
 go_enter Try.func12,Try.ntmps12
 refine wp_seq_k fun K hK => ?_
 have HK:=ζ hK
 clear hK
 go_wp2_with fail
 refine HK.out _ _ ?_
 clear HK K
 generalize w.alloc _ = X0 at *
 obtain ⟨y0,y1,y2,y3,y4⟩:=cellsY5 XS0.out
 refine wp_seq_k fun K hK => ?_
 have HK:=ζ hK
 clear hK
 go_wp2_with fail
 refine (HPs.out _ HM0.out).mono ?_
 rintro e1 X ⟨x,rfl,hx,hb⟩
 have HM:=ζ (HM0.out.below hb)
 have XS:=ζ (blk_keep XS0.out hb)
 have NB : Hid (Below w.heap.size w X):=NB0.out.trans (hb.mono NB0.out.size)
 have HXx:=ζ hx
 clear hb hx HM0 XS0 NB0 HPs y0 y1 y2 y3 y4
 cases x with
 | false =>
  have HNo : Hid (¬ Z):=fun hz => by
   rw [HZ.out] at hz;have h2:=HXx.out.2 ⟨hz.p1,hz.p2,hz.r1,hz.g1,hz.l1,hz.c1,hz.rm,hz.pl⟩
   cases h2
  go_wp2;go_ret;exact ⟨130,rfl,fun h => absurd h HNo.out,fun _ => rfl,NB.out⟩
 | true =>
  have HSz : Hid (SzOk s):=HXx.out.1 rfl
  clear HXx;obtain ⟨y0,y1,y2,y3,y4⟩:=cellsY5 XS.out
  go_wp2;refine HK.out _ _ ?_;clear HK K;refine wp_seq_k fun K hK => ?_
  have HK:=ζ hK
  clear hK;go_wp2;clear y0 y1 y2 y3 y4;go_loopw [13] (fun p w2 => ∃ p' : Nat,p' ≤ n ∧ p = .int .i64 (p' : Int) ∧ Hid (Below X.heap.size X w2) ∧ Hid (∀ q,q < p' → ∀ j,j < (s.progs.getD q []).length → rightM s q ((s.progs.getD q []).getD j i0))) (fun p w2 => n - (intOf p).toNat)
  case atStart => exact ⟨0,Nat.zero_le _,rfl,ζ (Below.refl _ _),ζ (fun q hq => by omega)⟩
  case round =>
   obtain ⟨p,hp,rfl,HX1,HQ0⟩:=hrel
   have NBp : Hid (Below w.heap.size w wr):=NB.out.trans (HX1.out.mono NB.out.size)
   by_cases hlp : p < n
   ·have hp1 : (p : Int) < (n : Int):=by omega
    have hp0 : (0 : Int) ≤ (p : Int):=by omega
    obtain ⟨b,off,rfl,A,KA,hpc,hir⟩ : ∃ b off,pa = some ⟨b,off,none⟩ ∧ ∃ A KA,X.cell? ⟨b,off + p,none⟩ = some (.slice A (s.progs.getD p []).length KA) ∧ IR X A (s.progs.getD p []):=by
     rcases HM.out.pr with h | ⟨b,off,e,hc⟩
     ·exfalso;have:=HN.out;rw [h] at this;simp at this;omega
     ·obtain ⟨A,K,h1,h2⟩:=hc p (by rw [HN.out];exact hlp)
      exact ⟨b,off,e,A,K,h1,h2⟩
    have HRt0 : Hid (∀ (j : Nat) (W : World),Calls Try.prog 24 #[.agg #[.slice (some ⟨b,off,none⟩) n pc,.slice ra r rc,.int .i64 s.groups,.int .i64 s.locks,.int .i64 s.cells],.int .i64 ((s.progs.getD p []).length : Nat),.agg #[.int .i64 ((s.progs.getD p []).getD j i0).op,.int .i64 ((s.progs.getD p []).getD j i0).a,.int .i64 ((s.progs.getD p []).getD j i0).b,.int .i64 ((s.progs.getD p []).getD j i0).c]] W (RiP (rightM s p ⟨((s.progs.getD p []).getD j i0).op,((s.progs.getD p []).getD j i0).a,((s.progs.getD p []).getD j i0).b,((s.progs.getD p []).getD j i0).c⟩) W)):=fun j W => pinst s (some ⟨b,off,none⟩) pc ra rc n r _ p _ _ _ _ W HN.out HRn.out (by have:=HSz.out.p2;have:=HN.out;omega) (by have:=HSz.out.r1;have:=HRn.out;omega) HSz.out.l1 HSz.out.g1 rfl (HNi.out p j).2.1 (HNi.out p j).2.2.1 (HNi.out p j).2.2.2 HSz.out.c1.1
    have HIn : Hid (∀ j,j < (s.progs.getD p []).length → ∃ b2 off2,A = some ⟨b2,off2,none⟩ ∧ X.cell? ⟨b2,off2 + j * 4,none⟩ = some (.int .i64 ((s.progs.getD p []).getD j i0).op) ∧ X.cell? ⟨b2,off2 + j * 4 + 1,none⟩ = some (.int .i64 ((s.progs.getD p []).getD j i0).a) ∧ X.cell? ⟨b2,off2 + j * 4 + 2,none⟩ = some (.int .i64 ((s.progs.getD p []).getD j i0).b) ∧ X.cell? ⟨b2,off2 + j * 4 + 3,none⟩ = some (.int .i64 ((s.progs.getD p []).getD j i0).c)):=by
     intro j hj
     rcases hir with h | ⟨b2,off2,e,hc⟩
     ·rw [h] at hj;simp at hj
     ·exact ⟨b2,off2,e,hc j hj⟩
    have HPb : Hid ((s.progs.getD p []).length ≤ 256):=HSz.out.pl p (by rw [HN.out];exact hlp)
    obtain ⟨pl,hpl⟩ : ∃ pl,(s.progs.getD p []).length = pl:=⟨_,rfl⟩
    have HPL:=ζ hpl
    rw [hpl] at hpc HIn HRt0 HPb;have HRt:=HRt0
    have HLP:=ζ hlp
    have hpl256:=HPb.out
    clear hir hpl hlp hp HRt0 HPb;have z0:=keepC HX1.out hpc
    go_wp2;clear z0;go_loopw [19] (fun i wr => ∃ j : Nat,j ≤ pl ∧ i = .int .i64 (j : Int) ∧ Hid (Below X.heap.size X wr) ∧ Hid (∀ q,q < j → rightM s p ((s.progs.getD p []).getD q i0))) (fun i wr => pl - (intOf i).toNat)
    case atStart => exact ⟨0,Nat.zero_le _,rfl,HX1,ζ (fun q hq => by omega)⟩
    case round =>
     obtain ⟨j,hj,rfl,HX0,HQ⟩:=hrel
     have NBr : Hid (Below w.heap.size w wr):=NB.out.trans (HX0.out.mono NB.out.size)
     by_cases hlt : j < pl
     ·have hj1 : (j : Int) < (pl : Int):=by omega
      have hj0 : (0 : Int) ≤ (j : Int):=by omega
      obtain ⟨b2,off2,rfl,x0_,x1_,x2_,x3_⟩:=HIn.out j hlt
      have x0:=keepC HX0.out x0_
      have x1:=keepC HX0.out x1_
      have x2:=keepC HX0.out x2_
      have x3:=keepC HX0.out x3_
      have HRi:=ζ (fun W => HRt.out j W)
      have HZr : Hid (Z → rightM s p ⟨((s.progs.getD p []).getD j i0).op,((s.progs.getD p []).getD j i0).a,((s.progs.getD p []).getD j i0).b,((s.progs.getD p []).getD j i0).c⟩):=fun hz => by
       rw [HZ.out] at hz;exact hz.rt p (by rw [HN.out];exact HLP.out) j (by rw [HPL.out];exact hlt)
      have HRq : Hid (rightM s p ⟨((s.progs.getD p []).getD j i0).op,((s.progs.getD p []).getD j i0).a,((s.progs.getD p []).getD j i0).b,((s.progs.getD p []).getD j i0).c⟩ → rightM s p ((s.progs.getD p []).getD j i0)):=fun h => h
      have HLJ:=ζ hlt
      have y0:=keepC HX0.out (cellsY5 XS.out).1
      clear hlt x0_ x1_ x2_ x3_;generalize ((s.progs.getD p []).getD j i0).op = op at *;generalize ((s.progs.getD p []).getD j i0).a = a0 at *;generalize ((s.progs.getD p []).getD j i0).b = a1 at *;generalize ((s.progs.getD p []).getD j i0).c = a2 at *;have hAl : Below wr.heap.size wr ((wr.alloc (.cells #[.int .i64 0,.int .i64 0,.int .i64 0,.int .i64 0] 68)).setRow wr.heap.size #[.int .i64 op,.int .i64 a0,.int .i64 a1,.int .i64 a2]):=below_setRow ((Below.refl _ _).alloc (Nat.le_refl _) _) (Nat.le_refl _)
      have NI : Hid (((wr.alloc (.cells #[.int .i64 0,.int .i64 0,.int .i64 0,.int .i64 0] 68)).setRow wr.heap.size #[.int .i64 op,.int .i64 a0,.int .i64 a1,.int .i64 a2]).heap[wr.heap.size]? = some (.cells #[.int .i64 op,.int .i64 a0,.int .i64 a1,.int .i64 a2] 68 (0,0))):=setRow_heap _ _ _ _ _ _ (heap_alloc_new wr _)
      have HX1 : Hid (Below X.heap.size X ((wr.alloc (.cells #[.int .i64 0,.int .i64 0,.int .i64 0,.int .i64 0] 68)).setRow wr.heap.size #[.int .i64 op,.int .i64 a0,.int .i64 a1,.int .i64 a2])):=HX0.out.trans (hAl.mono HX0.out.size)
      clear hAl;refine wp_seq_k fun Kq hKq => ?_
      have HKq:=ζ hKq
      clear hKq;go_wp2;refine HKq.out _ _ ?_;clear HKq Kq;refine wp_seq_k fun Kc hKc => ?_
      have HKc:=ζ hKc
      clear hKc;go_wp2;refine HKc.out _ _ ?_;clear HKc Kc;refine wp_seq_k fun Kd hKd => ?_
      have HKd:=ζ hKd
      clear hKd;refine wp_block ?_;refine wp_seq_k fun Ke hKe => ?_
      have HKe:=ζ hKe
      clear hKe;go_wp2_with (refine wpList_store_row (by rfl) 68 _ _ (by rfl) wr.heap.size #[.int .i64 op,.int .i64 a0,.int .i64 a1,.int .i64 a2] (by rfl) (by rfl) 68 _ (heap_alloc_new wr _) (by kernel_rfl) (by rfl) (by simp [Value.oneCell']) ?_)
      refine HKe.out _ _ ?_;clear HKe Ke x0 x1 x2 x3 y0;generalize World.setRow _ _ _ = X1 at *;generalize wr.heap.size = g3 at *;obtain ⟨y0,y1,y2,y3,y4⟩:=cellsY5 (blk_keep XS.out HX1.out)
      obtain ⟨z0,z1,z2,z3⟩:=cellsY4 NI.out
      go_wp2_with fail
      refine (HRi.out _).mono ?_
      rintro ex1 W1 ⟨xb,rfl,hxb,hb⟩
      have HT1 : Hid (Below X.heap.size X W1):=HX1.out.trans (hb.mono HX1.out.size)
      have NB1 : Hid (Below w.heap.size w W1):=NB.out.trans (HT1.out.mono NB.out.size)
      have HXB:=ζ hxb
      clear hb hxb y0 y1 y2 y3 y4 z0 z1 z2 z3 HRi;cases xb with
      | true =>
       go_wp2;refine HKd.out _ _ ?_;go_wp2;go_roundw
       case rel =>
        refine ⟨j + 1,HLJ.out,by go_num,HT1,ζ (fun q hq => ?_)⟩
        rcases Nat.lt_or_ge q j with h | h
        ·exact HQ.out q h
        ·obtain rfl : q = j:=by omega
         exact HRq.out (HXB.out.1 (by trivial))
       case measure => simp [intOf];have:=HLJ.out;omega
      | false =>
       have HNo : Hid (¬ Z):=fun hz => by
        have:=HXB.out.2 (HZr.out hz)
        simp at this
       go_wp2;go_ret;exact ⟨130,rfl,fun h => absurd h HNo.out,fun _ => rfl,NB1.out⟩
     ·have hjp : pl = j:=by omega
      subst hjp;go_wp2;refine ⟨⟨p + 1,HLP.out,by go_num,HX0,ζ (fun q hq => ?_)⟩,by simp [intOf];have:=HLP.out;omega⟩
      rcases Nat.lt_or_ge q p with h | h
      ·exact HQ0.out q h
      ·obtain rfl : q = p:=by omega
       exact fun x hx => HQ.out x (by rw [HPL.out] at hx;exact hx)
   ·have hpn : n = p:=by omega
    subst hpn;have HYes : Hid Z:=by
     show Z
     rw [HZ.out];have e1:=HN.out
     have e2:=HRn.out
     have e3:=HSz.out
     exact ⟨e3.p1,e3.p2,e3.r1,e3.g1,e3.l1,e3.c1,e3.rm,e3.pl,fun q hq => HQ0.out q (by omega)⟩
    go_wp2;refine HK.out _ _ ?_;go_wp2;go_ret;exact ⟨0,rfl,fun _ => rfl,fun h => absurd HYes.out h,NBp.out⟩
theorem pvalid : ∀ (s : Syst) (pa : Option Addr) (pc : Nat) (ra : Option Addr) (rc : Nat) (w : World),SyI w s pa ra → Calls Try.prog 12 #[.agg (syC s pa pc ra rc)] w fun e w' => ∃ x : Int,e = .returned (.int .i64 x) ∧ (Ok s → x = 0) ∧ (¬ Ok s → x = 130) ∧ Below w.heap.size w w':=fun s pa pc ra rc w h => pvalid1 s pa pc ra rc _ _ w h rfl rfl
end LW
end Go.Proofs.Ytfbnakmmmphedaa
