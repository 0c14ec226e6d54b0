/-
  Cp4, LayS, Cp5, Cp6 in one.
-/
import Derived.Test.YtfbnakmmmphedaaCpAo
import Derived.Test.YtfbnakmmmphedaaChecked
import Derived.Shelf.SlSortCmp.WholeK
import Derived.Shelf.SlGeneric
import Derived.Shelf.SlSortCmp.NoneTotal
set_option linter.unusedVariables false
set_option linter.unusedSimpArgs false
set_option maxRecDepth 100000
set_option maxHeartbeats 4000000
namespace Go.Proofs.Ytfbnakmmmphedaa
open List renaming getD_eq_getElem?_getD → gDQ
open Go.RowKit
namespace LW
open Mc
theorem zeroE (w : World) : (zeroValue 109).run Try.prog w = .ok (.agg #[.int .i64 0,.int .i64 0]) w:=by kernel_rfl
theorem pcompact (B g cap : Nat) (d : List Eg2) (w : World) (hd : 0 < d.length) (hc : CI w g cap d.length (fun j => d.getD j (0,0))) (hN : d.length ≤ cap) (hm : cap ≤ maxLen) (hl : d.length ≤ 4000000000) (hB : B ≤ g) :
  Calls Try.prog 64 #[.slice (some ⟨g,0,none⟩) d.length cap] w fun e w' => ∃ v',e = .returned v' ∧ w'.ownsRow B 109 2 v' (cuN d d.length).length (edC (cuN d d.length)) ∧ Below B w w':=by
 obtain ⟨POST,hP⟩ : ∃ Q : Ending → World → Prop,Q = fun e w' => ∃ v',e = .returned v' ∧ w'.ownsRow B 109 2 v' (cuN d d.length).length (edC (cuN d d.length)) ∧ Below B w w':=⟨_,rfl⟩
 have HPo : Hid (∀ v' w',w'.ownsRow B 109 2 v' (cuN d d.length).length (edC (cuN d d.length)) → Below B w w' → POST (.returned v') w'):=fun v' w' h1 h2 => by rw [hP];exact ⟨v',rfl,h1,h2⟩
 rw [← hP]
 clear hP
 obtain ⟨N,hNN⟩ : ∃ N,d.length = N:=⟨_,rfl⟩
 have HNN:=ζ hNN
 have HC:=ζ hc
 rw [hNN] at hd hN hl HC HPo ⊢
 clear hc hNN
 have HCap:=ζ hm
 by_cases h2 : N < 2
 ·have k2 : (N : Int) < 2:=by omega
  obtain rfl : N = 1:=by omega
  have e1 : cuN d 1 = d:=by
   rw [cuN_take d 1 (by rw [HNN.out];omega) (fun j h1 h2 => by omega),← HNN.out,List.take_length]
  have HR:=ζ (HPo.out (.slice (some ⟨g,0,none⟩) 1 cap) w (by
   rw [e1];have:=CI.own (d:=d) (by rw [HNN.out];exact HC.out) (by rw [HNN.out];exact hN) HCap.out hB
   rw [HNN.out] at this ⊢;exact this) (Below.refl _ _))
  clear HPo HC e1 h2;go_enter Try.func64,Try.ntmps64
  go_wp2;first | exact HR.out | exact ⟨rfl,HR.out⟩
 ·have k2 : ¬ (N : Int) < 2:=by omega
  go_enter Try.func64,Try.ntmps64
  go_wp2;go_loopw [3] (fun i wr => ∃ k : Nat,1 ≤ k ∧ k ≤ N ∧ i = .int .i64 (k : Int) ∧ Hid (∀ j,1 ≤ j → j < k → d.getD j (0,0) ≠ d.getD (j - 1) (0,0)) ∧ Hid (CI wr g cap N (fun j => d.getD j (0,0))) ∧ Hid (Below B w wr)) (fun i wr => N - (intOf i).toNat)
  case atStart => exact ⟨1,by omega,by omega,rfl,ζ (fun j h1 h2 => by omega),HC,ζ (Below.refl _ _)⟩
  case round =>
   clear HC;obtain ⟨k,hk1,hkN,rfl,HU,HC,HBw⟩:=hrel
   by_cases hlt : k < N
   ·have q1 : (k : Int) < (N : Int):=by omega
    have q0 : (0 : Int) ≤ (k : Int):=by omega
    have q2 : (0 : Int) ≤ (k : Int) - 1:=by omega
    have q3 : (k : Int) - 1 < (N : Int):=by omega
    have q4 : IntKind.i64.wrap ((k : Int) - 1) = (k : Int) - 1:=by rw [IntKind.wrap_i64];omega
    have q5 : ((k : Int) - 1).toNat = k - 1:=by omega
    obtain ⟨c0,c1⟩:=HC.out.get hN k hlt
    obtain ⟨c2,c3⟩:=HC.out.get hN (k - 1) (by omega)
    obtain ⟨x1,ex1⟩ : ∃ x,(d.getD k (0,0)).1 = x:=⟨_,rfl⟩
    obtain ⟨x2,ex2⟩ : ∃ x,(d.getD k (0,0)).2 = x:=⟨_,rfl⟩
    obtain ⟨y1,ey1⟩ : ∃ x,(d.getD (k - 1) (0,0)).1 = x:=⟨_,rfl⟩
    obtain ⟨y2,ey2⟩ : ∃ x,(d.getD (k - 1) (0,0)).2 = x:=⟨_,rfl⟩
    rw [ex1] at c0;rw [ex2] at c1;rw [ey1] at c2;rw [ey2] at c3;have HE : Hid (d.getD k (0,0) = d.getD (k - 1) (0,0) ↔ (x1 = y1 ∧ x2 = y2)):=by
     show _ ↔ _
     rw [Prod.ext_iff,ex1,ex2,ey1,ey2]
    clear ex1 ex2 ey1 ey2;by_cases hq1 : x1 = y1
    ·subst hq1
     by_cases hq2 : x2 = y2
     ·subst hq2
      have HEq : Hid (d.getD k (0,0) = d.getD (k - 1) (0,0)):=HE.out.2 ⟨rfl,rfl⟩
      clear HE;have hgap : ¬ cap = k:=by omega
      go_wp2;go_quiet (fail)
      go_wp2;have HC1:=ζ (HC.out.keep (W':=wr.drewN nq) rfl)
      have HB1:=ζ (below_drewN HBw.out nq)
      have HLs : Hid (cuN d (k + 1) = d.take k):=by
       show _ = _
       rw [cuN,if_pos ⟨hk1,HEq.out⟩,cuN_take d k (by rw [HNN.out];omega) HU.out]
      clear c0 c1 c2 c3 q2 q3 q4 q5 HC HBw HEq;generalize wr.drewN nq = wq at *;go_loopw [3,5] (fun a b wr2 => ∃ (kk j2 : Nat) (r : Nat → Eg2),1 ≤ j2 ∧ j2 ≤ N - k ∧ k ≤ kk ∧ kk ≤ k + j2 - 1 ∧ a = .int .i64 (kk : Int) ∧ b = .int .i64 (j2 : Int) ∧ Hid (CI wr2 g cap N r) ∧ Hid ((cuN d (k + j2)).length = kk) ∧ Hid (∀ j,j < kk → r j = (cuN d (k + j2)).getD j (0,0)) ∧ Hid (∀ j,k + j2 - 1 ≤ j → j < N → r j = d.getD j (0,0)) ∧ Hid (Below B w wr2)) (fun a b wr2 => N - (intOf b).toNat)
      case atStart => exact ⟨k,1,fun j => d.getD j (0,0),by omega,by omega,by omega,by omega,rfl,rfl,HC1,ζ (by
       show _ = _
       rw [HLs.out,List.length_take,HNN.out];omega),ζ (fun j hj => by
       rw [HLs.out];dsimp only
       rw [gDQ,gDQ,List.getElem?_take,if_pos hj]),ζ (fun j h1 h2 => rfl),HB1⟩
      case round =>
       clear HC1 HB1 HLs;obtain ⟨kk,j2,r,hj1,hj2,hkk,hkk2,rfl,rfl,HC2,HLn,HLo,HHi,HB2⟩:=hrel
       by_cases hlt2 : j2 < N - k
       ·have q1 : (j2 : Int) < ((N - k : Nat) : Int):=by omega
        have q0 : (0 : Int) ≤ (j2 : Int):=by omega
        have q2 : (0 : Int) ≤ (j2 : Int) - 1:=by omega
        have q3 : (j2 : Int) - 1 < ((N - k : Nat) : Int):=by omega
        have q4 : IntKind.i64.wrap ((j2 : Int) - 1) = (j2 : Int) - 1:=by rw [IntKind.wrap_i64];omega
        have q5 : ((j2 : Int) - 1).toNat = j2 - 1:=by omega
        obtain ⟨c0,c1⟩:=HC2.out.get hN (k + j2) (by omega)
        obtain ⟨c2,c3⟩:=HC2.out.get hN (k + j2 - 1) (by omega)
        rw [HHi.out (k + j2) (by omega) (by omega)] at c0 c1
        rw [HHi.out (k + j2 - 1) (by omega) (by omega)] at c2 c3
        rw [show (k + j2) * 2 = k * 2 + j2 * 2 by omega] at c0 c1
        rw [show (k + j2 - 1) * 2 = k * 2 + (j2 - 1) * 2 by omega] at c2 c3
        obtain ⟨a1,ea1⟩ : ∃ x,(d.getD (k + j2) (0,0)).1 = x:=⟨_,rfl⟩
        obtain ⟨a2,ea2⟩ : ∃ x,(d.getD (k + j2) (0,0)).2 = x:=⟨_,rfl⟩
        obtain ⟨b1,eb1⟩ : ∃ x,(d.getD (k + j2 - 1) (0,0)).1 = x:=⟨_,rfl⟩
        obtain ⟨b2,eb2⟩ : ∃ x,(d.getD (k + j2 - 1) (0,0)).2 = x:=⟨_,rfl⟩
        rw [ea1] at c0;rw [ea2] at c1;rw [eb1] at c2;rw [eb2] at c3;have HE2 : Hid (d.getD (k + j2) (0,0) = d.getD (k + j2 - 1) (0,0) ↔ (a1 = b1 ∧ a2 = b2)):=by
         show _ ↔ _
         rw [Prod.ext_iff,ea1,ea2,eb1,eb2]
        have HA1:=ζ ea1
        have HA2:=ζ ea2
        clear ea1 ea2 eb1 eb2;by_cases hq1 : a1 = b1
        ·subst hq1
         by_cases hq2 : a2 = b2
         ·subst hq2
          have HEq2 : Hid (d.getD (k + j2) (0,0) = d.getD (k + j2 - 1) (0,0)):=HE2.out.2 ⟨rfl,rfl⟩
          clear HE2;go_wp2;go_quiet (fail)
          go_wp2;go_roundw
          case rel => exact ⟨kk,j2 + 1,r,by omega,by omega,by omega,by omega,rfl,by go_num,ζ (HC2.out.keep rfl),ζ (by
           show _ = _
           rw [show k + (j2 + 1) = (k + j2) + 1 by omega,cuN,if_pos ⟨by omega,HEq2.out⟩]
           exact HLn.out),ζ (fun j hj => by
           rw [show k + (j2 + 1) = (k + j2) + 1 by omega,cuN,if_pos ⟨by omega,HEq2.out⟩]
           exact HLo.out j hj),ζ (fun j h1 h2 => HHi.out j (by omega) h2),ζ (below_drewN HB2.out _)⟩
          case measure => simp [intOf];omega
         ·have n2 : (a2 == b2) = false:=by simp [hq2]
          have HNe : Hid (d.getD (k + j2) (0,0) ≠ d.getD (k + j2 - 1) (0,0)):=fun e => (fun h => hq2 h.2) (HE2.out.1 e)
          have HX2 : Hid (d.getD (k + j2) (0,0) = (a1,a2)):=by
           show _ = _
           exact Prod.ext HA1.out HA2.out
          clear HE2;obtain ⟨zz1,hz1⟩:=Option.isSome_iff_exists.1 (HC2.out.there (kk * 2) (by omega))
          obtain ⟨zz2,hz2⟩:=Option.isSome_iff_exists.1 (HC2.out.there (kk * 2 + 1) (by omega))
          have f1:=HC2.out.frozen (kk * 2)
          have f2:=HC2.out.frozen (kk * 2 + 1)
          have q7 : IntKind.i64.wrap ((kk : Int) + 1) = ((kk + 1 : Nat) : Int):=by rw [IntKind.wrap_i64];omega
          have q8 : (kk : Int) < (N : Int):=by omega
          have q9 : (0 : Int) ≤ (kk : Int):=by omega
          go_wp2;go_quiet (fail)
          go_wp2;go_roundw
          case rel => exact ⟨kk + 1,j2 + 1,put r kk (a1,a2),by omega,by omega,by omega,by omega,by first | rfl | go_num,by go_num,ζ ((HC2.out.keep (W':=wr.drewN nq) rfl).setE kk a1 a2),ζ (by
           show _ = _
           rw [show k + (j2 + 1) = (k + j2) + 1 by omega,cuN,if_neg (fun hh => HNe.out hh.2),List.length_append,HLn.out]
           rfl),ζ (fun j hj => by
           rw [show k + (j2 + 1) = (k + j2) + 1 by omega,cuN,if_neg (fun hh => HNe.out hh.2),gDQ]
           by_cases e : j = kk
           ·subst e
            rw [put_same,List.getElem?_append_right (by rw [HLn.out];exact Nat.le_refl _),HLn.out,Nat.sub_self,HX2.out]
            rfl
           ·rw [put_other _ _ _ _ e,List.getElem?_append_left (by rw [HLn.out];omega),← gDQ]
            exact HLo.out j (by omega)),ζ (fun j h1 h2 => by
           rw [put_other _ _ _ _ (by omega)]
           exact HHi.out j (by omega) h2),ζ (((below_drewN HB2.out nq).setCell (p:=⟨g,kk * 2,none⟩) hB _).setCell (p:=⟨g,kk * 2 + 1,none⟩) hB _)⟩
          case measure => simp [intOf];omega
        ·have n1 : (a1 == b1) = false:=by simp [hq1]
         have HNe : Hid (d.getD (k + j2) (0,0) ≠ d.getD (k + j2 - 1) (0,0)):=fun e => (fun h => hq1 h.1) (HE2.out.1 e)
         have HX2 : Hid (d.getD (k + j2) (0,0) = (a1,a2)):=by
          show _ = _
          exact Prod.ext HA1.out HA2.out
         clear HE2;obtain ⟨zz1,hz1⟩:=Option.isSome_iff_exists.1 (HC2.out.there (kk * 2) (by omega))
         obtain ⟨zz2,hz2⟩:=Option.isSome_iff_exists.1 (HC2.out.there (kk * 2 + 1) (by omega))
         have f1:=HC2.out.frozen (kk * 2)
         have f2:=HC2.out.frozen (kk * 2 + 1)
         have q7 : IntKind.i64.wrap ((kk : Int) + 1) = ((kk + 1 : Nat) : Int):=by rw [IntKind.wrap_i64];omega
         have q8 : (kk : Int) < (N : Int):=by omega
         have q9 : (0 : Int) ≤ (kk : Int):=by omega
         go_wp2;go_quiet (fail)
         go_wp2;go_roundw
         case rel => exact ⟨kk + 1,j2 + 1,put r kk (a1,a2),by omega,by omega,by omega,by omega,by first | rfl | go_num,by go_num,ζ ((HC2.out.keep (W':=wr.drewN nq) rfl).setE kk a1 a2),ζ (by
          show _ = _
          rw [show k + (j2 + 1) = (k + j2) + 1 by omega,cuN,if_neg (fun hh => HNe.out hh.2),List.length_append,HLn.out]
          rfl),ζ (fun j hj => by
          rw [show k + (j2 + 1) = (k + j2) + 1 by omega,cuN,if_neg (fun hh => HNe.out hh.2),gDQ]
          by_cases e : j = kk
          ·subst e
           rw [put_same,List.getElem?_append_right (by rw [HLn.out];exact Nat.le_refl _),HLn.out,Nat.sub_self,HX2.out]
           rfl
          ·rw [put_other _ _ _ _ e,List.getElem?_append_left (by rw [HLn.out];omega),← gDQ]
           exact HLo.out j (by omega)),ζ (fun j h1 h2 => by
          rw [put_other _ _ _ _ (by omega)]
          exact HHi.out j (by omega) h2),ζ (((below_drewN HB2.out nq).setCell (p:=⟨g,kk * 2,none⟩) hB _).setCell (p:=⟨g,kk * 2 + 1,none⟩) hB _)⟩
         case measure => simp [intOf];omega
       ·obtain rfl : j2 = N - k:=by omega
        obtain ⟨M2,hM2⟩ : ∃ M2,N - k = M2:=⟨_,rfl⟩
        have hkM : k + (N - k) = N:=by omega
        have q1 : ¬ ((N - k : Nat) : Int) < ((N - k : Nat) : Int):=by omega
        have q9 : (0 : Int) ≤ (kk : Int):=by omega
        have q8 : (kk : Int) ≤ (N : Int):=by omega
        have q7 : (N : Int) ≤ (cap : Int):=by omega
        have q6 : ¬ cap = kk:=by omega
        have hcl : ∀ ty,(Builtin.clear_ #[91] ty #[.slice (some ⟨g,kk * 2,none⟩) (N - kk) (cap - kk)]).run Try.prog wr = .ok (.tuple #[]) (wr.setCells g (kk * 2) (List.replicate ((N - kk) * 2) (.int .i64 0))):=fun ty => run_clear2 wr _ 109 ty Try.underlying91 (fun w => zeroE w) g (kk * 2) (N - kk) (cap - kk) (by omega) (fun j hj => HC2.out.there _ (by omega)) (fun j hj => HC2.out.frozen _)
        have HC3:=ζ (HC2.out.setB kk (by omega) (List.replicate ((N - kk) * 2) (.int .i64 0)))
        have HB3:=ζ (Go.below_setCells (B:=B) (b:=g) (a:=w) hB (List.replicate ((N - kk) * 2) (.int .i64 0)) (kk * 2) wr HB2.out)
        have HR:=ζ (HPo.out (.slice (some ⟨g,0,none⟩) kk cap) _ (by
         have h5 : (cuN d N).length = kk:=by have:=HLn.out;rw [hkM] at this;exact this
         have h6:=CI.own (d:=cuN d N) (B:=B) (by
          rw [h5];obtain ⟨f,h7,h8⟩:=HC3.out
          refine ⟨f,h7,fun j hj => ?_⟩
          have h9:=HLo.out j hj
          rw [hkM] at h9;dsimp only
          rw [← h9];exact h8 j hj) (by rw [h5];omega) HCap.out hB
         rw [h5] at h6 ⊢;exact h6) HB3.out)
        clear HPo HC2 HC3 HB2 HB3 HLn HLo HHi hM2;go_wp2;first | exact HR.out | exact ⟨rfl,HR.out⟩
     ·have n2 : (x2 == y2) = false:=by simp [hq2]
      have HNe : Hid (d.getD k (0,0) ≠ d.getD (k - 1) (0,0)):=fun e => (fun h => hq2 h.2) (HE.out.1 e)
      clear HE;have hq5 : (1 : Nat) = 1:=rfl
      go_wp2;go_quiet (fail)
      go_wp2;go_roundw
      case rel => exact ⟨k + 1,by omega,by omega,by go_num,ζ (fun j h1 h2 => by
       by_cases e : j = k
       ·subst e;exact HNe.out
       ·exact HU.out j h1 (by omega)),ζ (HC.out.keep rfl),ζ (below_drewN HBw.out _)⟩
      case measure => simp [intOf];omega
    ·have n1 : (x1 == y1) = false:=by simp [hq1]
     have HNe : Hid (d.getD k (0,0) ≠ d.getD (k - 1) (0,0)):=fun e => (fun h => hq1 h.1) (HE.out.1 e)
     clear HE;have hq5 : (1 : Nat) = 1:=rfl
     go_wp2;go_quiet (fail)
     go_wp2;go_roundw
     case rel => exact ⟨k + 1,by omega,by omega,by go_num,ζ (fun j h1 h2 => by
      by_cases e : j = k
      ·subst e;exact HNe.out
      ·exact HU.out j h1 (by omega)),ζ (HC.out.keep rfl),ζ (below_drewN HBw.out _)⟩
     case measure => simp [intOf];omega
   ·obtain rfl : k = N:=by omega
    have q1 : ¬ (k : Int) < (k : Int):=by omega
    have e1 : cuN d k = d:=by
     rw [cuN_take d k (by rw [HNN.out];omega) HU.out,← HNN.out,List.take_length]
    have HR:=ζ (HPo.out (.slice (some ⟨g,0,none⟩) k cap) wr (by
     rw [e1];have:=CI.own (d:=d) (by rw [HNN.out];exact HC.out) (by rw [HNN.out];exact hN) HCap.out hB
     rw [HNN.out] at this ⊢;exact this) HBw.out)
    clear HPo HC e1 HU HBw;go_wp2;first | exact HR.out | exact ⟨rfl,HR.out⟩
end LW
end Go.Proofs.Ytfbnakmmmphedaa
namespace Go.Proofs.Ytfbnakmmmphedaa
open Go.RowKit Go.Shelf
set_option maxRecDepth 100000
namespace LW
def layS_ren : Go.Shelf.Ren:=⟨fun | 6 => 60 | 15 => 73 | 14 => 72 | 28 => 85 | 29 => 86 | 20 => 77 | 21 => 78 | 22 => 79 | 23 => 80 | 24 => 81 | 25 => 82 | 26 => 83 | 27 => 84 | 46 => 87 | 47 => 88 | 48 => 89 | 49 => 90 | 50 => 91 | 57 => 92 | n => n,fun | 22 => 91 | 24 => 109 | 25 => 125 | 3 => 3 | 39 => 129 | 0 => 0 | 53 => 134 | 55 => 137 | 4 => 4 | 46 => 142 | 45 => 141 | 50 => 106 | 5 => 5 | 9 => 9 | 66 => 149 | 70 => 153 | 76 => 155 | 77 => 119 | n => n,fun | n => n⟩
theorem layS : Go.Proofs.SlLaysF0.n6 Try.prog layS_ren:={
 mixed:=by kernel_rfl
 f6:=⟨Try.f60.name,by decide,Try.func60.trans (congrArg some (by kernel_rfl))⟩
 f14:=⟨Try.f72.name,by decide,Try.func72.trans (congrArg some (by kernel_rfl))⟩
 f15:=Try.func73.trans (congrArg some (by kernel_rfl))
 f20:=⟨Try.f77.name,by decide,Try.func77.trans (congrArg some (by kernel_rfl))⟩
 f21:=⟨Try.f78.name,by decide,Try.func78.trans (congrArg some (by kernel_rfl))⟩
 f22:=⟨Try.f79.name,by decide,Try.func79.trans (congrArg some (by kernel_rfl))⟩
 f23:=⟨Try.f80.name,by decide,Try.func80.trans (congrArg some (by kernel_rfl))⟩
 f24:=⟨Try.f81.name,by decide,Try.func81.trans (congrArg some (by kernel_rfl))⟩
 f25:=⟨Try.f82.name,by decide,Try.func82.trans (congrArg some (by kernel_rfl))⟩
 f26:=⟨Try.f83.name,by decide,Try.func83.trans (congrArg some (by kernel_rfl))⟩
 f27:=⟨Try.f84.name,by decide,Try.func84.trans (congrArg some (by kernel_rfl))⟩
 f28:=Try.func85.trans (congrArg some (by kernel_rfl))
 f29:=Try.func86.trans (congrArg some (by kernel_rfl))
 f46:=⟨Try.f87.name,by decide,Try.func87.trans (congrArg some (by kernel_rfl))⟩
 f47:=Try.func88.trans (congrArg some (by kernel_rfl))
 f48:=Try.func89.trans (congrArg some (by kernel_rfl))
 f49:=⟨Try.f90.name,by decide,Try.func90.trans (congrArg some (by kernel_rfl))⟩
 f50:=⟨Try.f91.name,by decide,Try.func91.trans (congrArg some (by kernel_rfl))⟩
 f57:=⟨Try.f92.name,by decide,Try.func92.trans (congrArg some (by kernel_rfl))⟩
 t0:=Try.underlying0
 a0:=Try.isAgg0
 z0:=Try.sizeOf0
 v0:=Try.zeroValue0
 t3:=Try.underlying3
 a3:=Try.isAgg3
 z3:=Try.sizeOf3
 v3:=Try.zeroValue3
 t4:=Try.underlying4
 a4:=Try.isAgg4
 z4:=Try.sizeOf4
 v4:=Try.zeroValue4
 t5:=Try.underlying5
 a5:=Try.isAgg5
 z5:=Try.sizeOf5
 v5:=Try.zeroValue5
 t9:=Try.underlying9
 a9:=Try.isAgg9
 z9:=Try.sizeOf9
 v9:=Try.zeroValue9
 t22:=Try.underlying91
 a22:=Try.isAgg91
 z22:=Try.sizeOf91
 v22:=Try.zeroValue91
 t25:=Try.underlying125
 a25:=Try.isAgg125
 z25:=Try.sizeOf125
 v25:=Try.zeroValue125
 t39:=Try.underlying129
 a39:=Try.isAgg129
 z39:=Try.sizeOf129
 v39:=Try.zeroValue129
 t45:=Try.underlying141
 a45:=Try.isAgg141
 z45:=Try.sizeOf141
 v45:=Try.zeroValue141
 t46:=Try.underlying142
 a46:=Try.isAgg142
 z46:=Try.sizeOf142
 v46:=Try.zeroValue142
 t50:=Try.underlying106
 a50:=Try.isAgg106
 z50:=Try.sizeOf106
 v50:=Try.zeroValue106
 t53:=Try.underlying134
 a53:=Try.isAgg134
 z53:=Try.sizeOf134
 v53:=Try.zeroValue134
 t55:=Try.underlying137
 a55:=Try.isAgg137
 z55:=Try.sizeOf137
 v55:=Try.zeroValue137
 t66:=Try.underlying149
 a66:=Try.isAgg149
 z66:=Try.sizeOf149
 v66:=Try.zeroValue149
 t70:=Try.underlying153
 a70:=Try.isAgg153
 z70:=Try.sizeOf153
 v70:=Try.zeroValue153
 t76:=Try.underlying155
 a76:=Try.isAgg155
 z76:=Try.sizeOf155
 v76:=Try.zeroValue155
 t77:=Try.underlying119
 a77:=Try.isAgg119
 z77:=Try.sizeOf119
 v77:=Try.zeroValue119 }
end LW
end Go.Proofs.Ytfbnakmmmphedaa
namespace Go.Proofs.Ytfbnakmmmphedaa
open Go Go.RowKit Go.Shelf
namespace LW
open Mc
def enE (x : Eg2) : List Value:=[.int .i64 x.1,.int .i64 x.2]
theorem lt_cf2 (x y : Eg2) : ltOf cf2 x y = true ↔ lt2 x y:=by
 unfold ltOf
 rw [decide_eq_true_eq]
 exact cf2_lt x y
theorem swo2 : Go.Sort.SWO (ltOf cf2) where
 irrefl x:=by
  rw [Bool.eq_false_iff,ne_eq,lt_cf2];unfold lt2;omega
 trans x y z h1 h2:=by
  rw [lt_cf2] at *
  exact lt2_trans h1 h2
 ntrans x y z h1 h2:=by
  rw [Bool.eq_false_iff,ne_eq,lt_cf2] at *
  unfold lt2 at *
  omega
theorem flat_at (d : Array Eg2) (j : Nat) (h : j < d.size) : (Go.Sort.flatK enE 2 d)[j * 2]! = .int .i64 (d[j]!).1 ∧ (Go.Sort.flatK enE 2 d)[j * 2 + 1]! = .int .i64 (d[j]!).2:=by
 rw [Go.Sort.get_flatK enE 2 d (j * 2) (by omega),Go.Sort.get_flatK enE 2 d (j * 2 + 1) (by omega)]
 rw [show j * 2 / 2 = j by omega,show j * 2 % 2 = 0 by omega,show (j * 2 + 1) / 2 = j by omega,show (j * 2 + 1) % 2 = 1 by omega]
 exact ⟨rfl,rfl⟩
theorem arr_get (d : List Eg2) (j : Nat) (h : j < d.length) : d.toArray[j]! = d.getD j (0,0):=by
 rw [getElem!_pos d.toArray j (by simpa using h),List.getD_eq_getElem?_getD,List.getElem?_eq_getElem h]
 rfl
theorem CI.holds {W : World} {g cap : Nat} {d : List Eg2} (h : CI W g cap d.length (fun j => d.getD j (0,0))) (hN : d.length ≤ cap) : Go.Sort.HoldsK enE 2 W g 0 d.toArray:=by
 intro t ht
 rw [Go.Sort.size_flatK] at ht
 have ht' : t < d.length * 2:=by simpa using ht
 refine ⟨?_,h.frozen _⟩
 rw [Nat.zero_add]
 obtain ⟨j,hj⟩ : ∃ j,t = j * 2 ∨ t = j * 2 + 1:=⟨t / 2,by omega⟩
 have hjd : j < d.length:=by omega
 obtain ⟨a,b⟩:=h.get hN j hjd
 obtain ⟨p,q⟩:=flat_at d.toArray j (by simpa using hjd)
 rw [arr_get d j hjd] at p q
 rcases hj with rfl | rfl
 ·rw [a]
  show _ = some ((Go.Sort.flatK enE 2 d.toArray)[j * 2]!)
  rw [p]
 ·rw [b]
  show _ = some ((Go.Sort.flatK enE 2 d.toArray)[j * 2 + 1]!)
  rw [q]
theorem CI.sorted {W : World} {g cap N : Nat} {r : Nat → Eg2} (h : CI W g cap N r) (hN : N ≤ cap) (n : Nat) (d : Array Eg2) (hd : d.size = N) (os : Array Obj) : CI (sortWorldK enE 2 W g 0 n d os) g cap N (fun j => d[j]!):=by
 obtain ⟨f,⟨c,hb,hs,hc⟩,h2⟩:=h
 have hlt : g < W.heap.size:=by
  obtain ⟨hlt,_⟩:=Array.getElem?_eq_some_iff.1 hb
  exact hlt
 have hh : (sortWorldK enE 2 W g 0 n d os).heap[g]? = some (.cells (Go.Sort.putCells id 0 (Go.Sort.flatK enE 2 d) c) 109 (0,0)):=by
  unfold sortWorldK;rw [Go.Sort.heap_grow_old _ _ (by show g < (W.heap.modify g _).size;rw [Array.size_modify];exact hlt)]
  show (W.heap.modify g _)[g]? = _
  rw [Array.getElem?_modify,if_pos rfl,hb];rfl
 refine ⟨fun i => if i < N * 2 then (Go.Sort.flatK enE 2 d)[i]! else f i,⟨_,hh,by unfold Go.Sort.putCells;rw [Array.size_mapIdx];exact hs,fun i hi => ?_⟩,fun j hj => ?_⟩
 ·unfold Go.Sort.putCells
  rw [Array.getElem?_mapIdx,hc i hi,Option.map_some,Go.Sort.size_flatK,hd,Nat.zero_add];congr 1
  show _ = if i < N * 2 then _ else _
  by_cases e : i < N * 2
  ·rw [if_pos ⟨Nat.zero_le _,e⟩,if_pos e];rfl
  ·rw [if_neg (fun hh => e hh.2),if_neg e]
 ·obtain ⟨p,q⟩:=flat_at d j (by omega)
  dsimp only
  rw [if_pos (by omega),if_pos (by omega)]
  exact ⟨p,q⟩
theorem below_sorted {W : World} {B g : Nat} (hB : B ≤ g) (hg : g < W.heap.size) (n : Nat) (d : Array Eg2) (os : Array Obj) : Below B W (sortWorldK enE 2 W g 0 n d os):=by
 unfold sortWorldK
 refine ⟨rfl,rfl,rfl,?_,fun k hk => ?_⟩
 ·rw [Go.Sort.size_grow]
  show _ ≤ (W.heap.modify g _).size + _
  rw [Array.size_modify];omega
 ·by_cases hlt : k < W.heap.size
  ·rw [Go.Sort.heap_grow_old _ _ (by show k < (W.heap.modify g _).size;rw [Array.size_modify];exact hlt)]
   show (W.heap.modify g _)[k]? = _
   rw [Array.getElem?_modify,if_neg (by omega)]
  ·omega
theorem psort (B g cap : Nat) (d : List Eg2) (w : World) (hc : CI w g cap d.length (fun j => d.getD j (0,0))) (hN : d.length ≤ cap) (hl : d.length ≤ 4000000000) (hB : B ≤ g) :
  Calls Try.prog 60 #[.slice (some ⟨g,0,none⟩) d.length cap,.func (.func 61) #[] #[]] w fun e w' => e = .returned (.tuple #[]) ∧ ∃ d' : List Eg2,d'.length = d.length ∧ (∀ x,x ∈ d' ↔ x ∈ d) ∧ (∀ i j,i < j → j < d'.length → ¬ lt2 (d'.getD j (0,0)) (d'.getD i (0,0))) ∧ CI w' g cap d'.length (fun j => d'.getD j (0,0)) ∧ Below B w w':=by
 have eg : ∀ args w,(callFunc 61 args).run Try.prog w = .ok (.enter 61 args) w:=enters_of Try.func61 (by kernel_rfl) rfl
 have hsz : d.toArray.size = d.length:=by simp
 have hcon:=AnyQ.slices_SortFunc layS 2 Try.isAgg109 Try.sizeOf109 enE (fun _ => rfl) (fun x v hv => by simp [enE] at hv;rcases hv with rfl | rfl <;> rfl) cf2 swo2 61 #[] g 0 cap d.toArray w eg (fun _ _ _ _ x y => pclos x.1 x.2 y.1 y.2 _) (hc.holds hN) hc.low (by rw [hsz];omega)
 rw [hsz] at hcon
 refine Calls.mono (show Calls Try.prog 60 _ _ _ from hcon) ?_
 rintro e w' ⟨rfl,D,n,os,hp,hs,rfl⟩
 have hDs : D.size = d.length:=by rw [hp.1];exact hsz
 have hDl : D.toList.length = d.length:=by rw [Array.length_toList];exact hDs
 have hget : ∀ j,j < d.length → D.toList.getD j (0,0) = D[j]!:=fun j hj => by
  have:=arr_get D.toList j (by omega)
  rw [Array.toArray_toList] at this;exact this.symm
 refine ⟨rfl,D.toList,hDl,fun x => ?_,fun i j hij hj => ?_,?_,below_sorted hB hc.low n D os⟩
 ·have h3:=hp.2.2.mem_iff (a:=x)
  rw [Array.extract_eq_self_of_le (by omega),Array.extract_eq_self_of_le (by omega)] at h3
  exact h3
 ·have h4:=hs i j (Nat.zero_le _) hij (by omega)
  rw [Bool.eq_false_iff,ne_eq,lt_cf2] at h4;rw [hget j (by omega),hget i (by omega)];exact h4
 ·rw [hDl]
  have h5:=hc.sorted hN n D hDs os
  obtain ⟨f,h6,h7⟩:=h5
  refine ⟨f,h6,fun j hj => ?_⟩
  dsimp only
  rw [hget j hj];exact h7 j hj
end LW
end Go.Proofs.Ytfbnakmmmphedaa
namespace Go.Proofs.Ytfbnakmmmphedaa
open Go.RowKit Go.Shelf
namespace LW
open Mc
theorem pcompact0 (a : Option Addr) (c : Nat) (w : World) : Calls Try.prog 64 #[.slice a 0 c] w fun e w' => e = .returned (.slice a 0 c) ∧ w' = w:=by
 go_enter Try.func64,Try.ntmps64
 go_wp2
 go_ret
 exact ⟨rfl,rfl⟩
theorem psort0 (a : Option Addr) (c : Nat) (fv : Value) (w : World) : Calls Try.prog 60 #[.slice a 0 c,fv] w fun e w' => e = .returned (.tuple #[]) ∧ w' = w:=AnyF.slices_SortFunc_none layS a c fv w
theorem mem_getD (d : List Eg2) (x : Eg2) : (∃ i,i < d.length ∧ d.getD i (0,0) = x) ↔ x ∈ d:=by
 constructor
 ·rintro ⟨i,h,rfl⟩
  rw [List.getD_eq_getElem?_getD,List.getElem?_eq_getElem h];exact List.getElem_mem h
 ·intro h
  obtain ⟨i,hi,rfl⟩:=List.getElem_of_mem h
  exact ⟨i,hi,by rw [List.getD_eq_getElem?_getD,List.getElem?_eq_getElem hi];rfl⟩
theorem pino : PInO:=by
 intro B v ed w hown hlen hB
 obtain ⟨POST,hP⟩ : ∃ Q : Ending → World → Prop,Q = fun e w' => ∃ v' ed',e = .returned v' ∧ w'.ownsRow B 109 2 v' ed'.length (edC ed') ∧ Ord ed' ∧ (∀ x,x ∈ ed' ↔ x ∈ ed) ∧ Below B w w':=⟨_,rfl⟩
 have HPo : Hid (∀ v' ed' w',w'.ownsRow B 109 2 v' ed'.length (edC ed') → Ord ed' → (∀ x,x ∈ ed' ↔ x ∈ ed) → Below B w w' → POST (.returned v') w'):=fun v' ed' w' h1 h2 h3 h4 => by rw [hP];exact ⟨v',ed',rfl,h1,h2,h3,h4⟩
 rw [← hP]
 clear hP
 by_cases h0 : ed.length = 0
 ·obtain rfl:=List.eq_nil_of_length_eq_zero h0
  obtain ⟨a,c,rfl⟩:=own_openE hown
  have HR:=ζ (HPo.out _ [] w hown (by simp [Ord]) (fun x => Iff.rfl) (Below.refl _ _))
  have H1:=ζ (fun fv W => psort0 a c fv W)
  have H2:=ζ (fun W => pcompact0 a c W)
  clear HPo hown hlen h0;go_enter Try.func51,Try.ntmps51
  go_wp2_with fail
  refine (H1.out _ _).mono ?_
  rintro e1 w1 ⟨rfl,rfl⟩
  go_wp2_with fail
  refine (H2.out _).mono ?_
  rintro e2 w2 ⟨rfl,rfl⟩
  go_wp2;first | exact HR.out | exact ⟨rfl,HR.out⟩
 ·obtain ⟨g,cap,rfl,hBg,hNc,hcm,hci⟩:=CI.of hown (by omega)
  have H1:=ζ (psort B g cap ed w hci hNc hlen hBg)
  have HF:=ζ (fun (d' : List Eg2) W (hl : d'.length = ed.length) (hc : CI W g cap d'.length (fun j => d'.getD j (0,0))) => pcompact B g cap d' W (by omega) hc (by omega) hcm (by omega) hBg)
  clear hown hci;generalize hL : ed.length = N at *;go_enter Try.func51,Try.ntmps51
  go_wp2_with fail
  refine H1.out.mono ?_
  rintro e1 w1 ⟨rfl,d',h1,h2,h3,h4,h5⟩
  have HC:=ζ (HF.out d' w1 h1 h4)
  rw [h1] at HC;have HR : Hid (∀ v' w',w'.ownsRow B 109 2 v' (cuN d' N).length (edC (cuN d' N)) → Below B w1 w' → POST (.returned v') w'):=fun v' w' q1 q2 => HPo.out v' (cuN d' N) w' q1 (cuN_ord d' h3 N (by omega)) (fun x => by rw [cuN_mem,← h2,← mem_getD,h1]) (h5.trans q2)
  clear HPo h2 h3 h4 h5 HF H1 h1;go_wp2_with fail
  refine HC.out.mono ?_
  rintro e2 w2 ⟨v',rfl,q1,q2⟩
  have HE:=ζ (HR.out v' w2 q1 q2)
  clear HR HC q1 q2;go_wp2;first | exact HE.out | exact ⟨rfl,HE.out⟩
theorem plinks (s : Syst) (pa : Option Addr) (pc : Nat) (ra : Option Addr) (rc : Nat) (la : Option Addr) (lc : Nat) (l : List Ev) (w : World) (hs : SyI w s pa ra) (hl : EvI w la lc l) (ho : Ok s) (hg : Tr.Gd s l l.length) (hL : l.length ≤ 40000) :
  Calls Try.prog 34 #[.agg #[.slice pa s.progs.length pc,.slice ra s.rooms.length rc,.int .i64 s.groups,.int .i64 s.locks,.int .i64 s.cells,.slice la l.length lc,.int .i64 (Tr.rnC l : Int)]] w (LnQ w s l):=plinksW pnew pino s pa pc ra rc la lc l w hs hl ho hg hL
end LW
end Go.Proofs.Ytfbnakmmmphedaa
