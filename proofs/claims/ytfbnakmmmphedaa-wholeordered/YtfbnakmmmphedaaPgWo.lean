/-
 What the program's Valid gives.
-/
import Derived.Test.YtfbnakmmmphedaaPgVo
import Derived.Test.YtfbnakmmmphedaaArgs13o
set_option linter.unusedVariables false
set_option linter.unusedSimpArgs false
set_option maxRecDepth 100000
set_option maxHeartbeats 4000000
namespace Go.Proofs.Ytfbnakmmmphedaa
open Go.RowKit
namespace LW
open Mc
def loM (wd : Int) : Int:=if wd = 2 then -9223372036854775808 else 0
def hiM (s : Syst) (pl : Nat) (wd : Int) : Int:=if wd = 1 then 7 else if wd = 2 then 9223372036854775807 else if wd = 3 then (pl : Int) else if wd = 4 then (s.rooms.length : Int) - 1 else if wd = 5 then s.locks - 1 else if wd = 6 then s.groups - 1 else if wd = 7 then (s.progs.length : Int) - 1 else 0
def ltr (wd : Int) : Int:=([110,114,120,112,99,108,103,115] : List Int).getD wd.toNat 110
theorem w8 {wd : Int} (h : 0 ≤ wd ∧ wd ≤ 7) : wd = 0 ∨ wd = 1 ∨ wd = 2 ∨ wd = 3 ∨ wd = 4 ∨ wd = 5 ∨ wd = 6 ∨ wd = 7:=by omega
theorem fit_iff (s : Syst) (p pl : Nat) (wd v : Int) (hp : (s.progs.getD p []).length = pl) (hw : 0 ≤ wd ∧ wd ≤ 7) (hv : i64 v) : (loM wd ≤ v ∧ v ≤ hiM s pl wd) ↔ fitM s p (ltr wd) v:=by
 unfold i64 at hv
 subst hp
 rcases w8 hw with rfl | rfl | rfl | rfl | rfl | rfl | rfl | rfl <;> simp [loM,hiM,ltr,fitM,bdM] <;> omega
theorem op16 {op : Int} (h1 : 1 ≤ op) (h2 : op ≤ 16) : op = 1 ∨ op = 2 ∨ op = 3 ∨ op = 4 ∨ op = 5 ∨ op = 6 ∨ op = 7 ∨ op = 8 ∨ op = 9 ∨ op = 10 ∨ op = 11 ∨ op = 12 ∨ op = 13 ∨ op = 14 ∨ op = 15 ∨ op = 16:=by omega
theorem wT_ltr {op a b c : Int} (h1 : 1 ≤ op) (h2 : op ≤ 16) (h : (a,b,c) = wT.getD op.toNat (0,0,0)) : ltr a = (fdM op).getD 0 0 ∧ ltr b = (fdM op).getD 1 0 ∧ ltr c = (fdM op).getD 2 0 ∧ (0 ≤ a ∧ a ≤ 7) ∧ (0 ≤ b ∧ b ≤ 7) ∧ (0 ≤ c ∧ c ≤ 7):=by
 rcases op16 h1 h2 with rfl | rfl | rfl | rfl | rfl | rfl | rfl | rfl | rfl | rfl | rfl | rfl | rfl | rfl | rfl | rfl <;> (obtain ⟨rfl,rfl,rfl⟩ : a = _ ∧ b = _ ∧ c = _:=by (simpa [wT] using h)) <;> decide
theorem pbounds (s : Syst) (pa : Option Addr) (pc : Nat) (ra : Option Addr) (rc n r pl : Nat) (wd : Int) (w : World) (hn : s.progs.length = n) (hr : s.rooms.length = r) (hn6 : n ≤ 64) (hr6 : r ≤ 64) (hl : 0 ≤ s.locks ∧ s.locks ≤ 64) (hg : 0 ≤ s.groups ∧ s.groups ≤ 64) :
  Calls Try.prog 52 #[.agg #[.slice pa n pc,.slice ra r rc,.int .i64 s.groups,.int .i64 s.locks,.int .i64 s.cells],.int .i64 pl,.int .i64 wd] w fun e w' => e = .returned (.tuple #[.int .i64 (loM wd),.int .i64 (hiM s pl wd)]) ∧ Below w.heap.size w w':=by
 have n0:=heap_alloc_new w (.cells #[.slice pa n pc,.slice ra r rc,.int .i64 s.groups,.int .i64 s.locks,.int .i64 s.cells] 30)
 have hb0:=(Below.refl w.heap.size w).alloc (Nat.le_refl _) (.cells #[.slice pa n pc,.slice ra r rc,.int .i64 s.groups,.int .i64 s.locks,.int .i64 s.cells] 30)
 have XS:=ζ n0
 have NB:=ζ hb0
 have HL : Hid (loM wd = if wd = 2 then -9223372036854775808 else 0):=rfl
 have HH : Hid (hiM s pl wd = if wd = 1 then 7 else if wd = 2 then 9223372036854775807 else if wd = 3 then (pl : Int) else if wd = 4 then (r : Int) - 1 else if wd = 5 then s.locks - 1 else if wd = 6 then s.groups - 1 else if wd = 7 then (n : Int) - 1 else 0):=by rw [← hn,← hr];rfl
 have e4 : IntKind.i64.wrap ((r : Int) - 1) = (r : Int) - 1:=by rw [IntKind.wrap_i64];omega
 have e5 : IntKind.i64.wrap (s.locks - 1) = s.locks - 1:=by rw [IntKind.wrap_i64];omega
 have e6 : IntKind.i64.wrap (s.groups - 1) = s.groups - 1:=by rw [IntKind.wrap_i64];omega
 have e7 : IntKind.i64.wrap ((n : Int) - 1) = (n : Int) - 1:=by rw [IntKind.wrap_i64];omega
 clear n0 hb0 hn hr hn6 hr6 hl hg
 generalize loM wd = LO at *
 generalize hiM s pl wd = HI at *
 go_enter Try.func52,Try.ntmps52
 refine wp_seq_k fun K hK => ?_
 have HK:=ζ hK
 clear hK
 go_wp2_with fail
 refine HK.out _ _ ?_
 clear HK K
 generalize w.alloc _ = X at *
 obtain ⟨y0,y1,y2,y3,y4⟩:=cellsY5 XS.out
 by_cases h1 : wd = 1
 ·have HE1 : Hid (LO = 0):=by show _ = _;rw [HL.out,if_neg (by omega)]
  have HE2 : Hid (HI = 7):=by show _ = _;rw [HH.out,if_pos h1]
  have k1 : (wd == 1) = true:=by simp [h1]
  clear h1 HL HH;go_wp2;go_ret2
  exact ⟨by rw [HE1.out,HE2.out];rfl,NB.out⟩
 have k1 : (wd == 1) = false:=by simp [h1]
 by_cases h2 : wd = 2
 ·have HE1 : Hid (LO = -9223372036854775808):=by show _ = _;rw [HL.out,if_pos h2]
  have HE2 : Hid (HI = 9223372036854775807):=by show _ = _;rw [HH.out,if_neg h1,if_pos h2]
  have k2 : (wd == 2) = true:=by simp [h2]
  clear h1 h2 HL HH;go_wp2;go_ret2
  exact ⟨by rw [HE1.out,HE2.out];rfl,NB.out⟩
 have k2 : (wd == 2) = false:=by simp [h2]
 by_cases h3 : wd = 3
 ·have HE1 : Hid (LO = 0):=by show _ = _;rw [HL.out,if_neg (by omega)]
  have HE2 : Hid (HI = (pl : Int)):=by show _ = _;rw [HH.out,if_neg h1,if_neg h2,if_pos h3]
  have k3 : (wd == 3) = true:=by simp [h3]
  clear h1 h2 h3 HL HH;go_wp2;go_ret2
  exact ⟨by rw [HE1.out,HE2.out];rfl,NB.out⟩
 have k3 : (wd == 3) = false:=by simp [h3]
 by_cases h4 : wd = 4
 ·have HE1 : Hid (LO = 0):=by show _ = _;rw [HL.out,if_neg (by omega)]
  have HE2 : Hid (HI = (r : Int) - 1):=by show _ = _;rw [HH.out,if_neg h1,if_neg h2,if_neg h3,if_pos h4]
  have k4 : (wd == 4) = true:=by simp [h4]
  clear h1 h2 h3 h4 HL HH;go_wp2;go_quiet (fail)
  go_wp2;go_ret2
  exact ⟨by rw [HE1.out,HE2.out];rfl,below_drewN NB.out _⟩
 have k4 : (wd == 4) = false:=by simp [h4]
 by_cases h5 : wd = 5
 ·have HE1 : Hid (LO = 0):=by show _ = _;rw [HL.out,if_neg (by omega)]
  have HE2 : Hid (HI = s.locks - 1):=by show _ = _;rw [HH.out,if_neg h1,if_neg h2,if_neg h3,if_neg h4,if_pos h5]
  have k5 : (wd == 5) = true:=by simp [h5]
  clear h1 h2 h3 h4 h5 HL HH;go_wp2;go_quiet (fail)
  go_wp2;go_ret2
  exact ⟨by rw [HE1.out,HE2.out];rfl,below_drewN NB.out _⟩
 have k5 : (wd == 5) = false:=by simp [h5]
 by_cases h6 : wd = 6
 ·have HE1 : Hid (LO = 0):=by show _ = _;rw [HL.out,if_neg (by omega)]
  have HE2 : Hid (HI = s.groups - 1):=by show _ = _;rw [HH.out,if_neg h1,if_neg h2,if_neg h3,if_neg h4,if_neg h5,if_pos h6]
  have k6 : (wd == 6) = true:=by simp [h6]
  clear h1 h2 h3 h4 h5 h6 HL HH;go_wp2;go_quiet (fail)
  go_wp2;go_ret2
  exact ⟨by rw [HE1.out,HE2.out];rfl,below_drewN NB.out _⟩
 have k6 : (wd == 6) = false:=by simp [h6]
 by_cases h7 : wd = 7
 ·have HE1 : Hid (LO = 0):=by show _ = _;rw [HL.out,if_neg (by omega)]
  have HE2 : Hid (HI = (n : Int) - 1):=by show _ = _;rw [HH.out,if_neg h1,if_neg h2,if_neg h3,if_neg h4,if_neg h5,if_neg h6,if_pos h7]
  have k7 : (wd == 7) = true:=by simp [h7]
  clear h1 h2 h3 h4 h5 h6 h7 HL HH;go_wp2;go_quiet (fail)
  go_wp2;go_ret2
  exact ⟨by rw [HE1.out,HE2.out];rfl,below_drewN NB.out _⟩
 have k7 : (wd == 7) = false:=by simp [h7]
 have HE1 : Hid (LO = 0):=by show _ = _;rw [HL.out,if_neg h2]
 have HE2 : Hid (HI = 0):=by show _ = _;rw [HH.out,if_neg h1,if_neg h2,if_neg h3,if_neg h4,if_neg h5,if_neg h6,if_neg h7]
 clear h1 h2 h3 h4 h5 h6 h7 HL HH
 go_wp2
 go_ret2
 exact ⟨by rw [HE1.out,HE2.out];rfl,NB.out⟩
theorem pfield (s : Syst) (pa : Option Addr) (pc : Nat) (ra : Option Addr) (rc n r pl p : Nat) (wd v : Int) (w : World) (hn : s.progs.length = n) (hr : s.rooms.length = r) (hn6 : n ≤ 64) (hr6 : r ≤ 64) (hl : 0 ≤ s.locks ∧ s.locks ≤ 64) (hg : 0 ≤ s.groups ∧ s.groups ≤ 64) (hpl : (s.progs.getD p []).length = pl) (hw : 0 ≤ wd ∧ wd ≤ 7) (hv : i64 v) :
  Calls Try.prog 38 #[.agg #[.slice pa n pc,.slice ra r rc,.int .i64 s.groups,.int .i64 s.locks,.int .i64 s.cells],.int .i64 pl,.int .i64 wd,.int .i64 v] w (RiP (fitM s p (ltr wd) v) w):=by
 have n0:=heap_alloc_new w (.cells #[.slice pa n pc,.slice ra r rc,.int .i64 s.groups,.int .i64 s.locks,.int .i64 s.cells] 30)
 have hb0:=(Below.refl w.heap.size w).alloc (Nat.le_refl _) (.cells #[.slice pa n pc,.slice ra r rc,.int .i64 s.groups,.int .i64 s.locks,.int .i64 s.cells] 30)
 have XS:=ζ n0
 have NB:=ζ hb0
 have HBo : Hid (∀ W,Calls Try.prog 52 #[.agg #[.slice pa n pc,.slice ra r rc,.int .i64 s.groups,.int .i64 s.locks,.int .i64 s.cells],.int .i64 pl,.int .i64 wd] W fun e w' => e = .returned (.tuple #[.int .i64 (loM wd),.int .i64 (hiM s pl wd)]) ∧ Below W.heap.size W w'):=fun W => pbounds s pa pc ra rc n r pl wd W hn hr hn6 hr6 hl hg
 have HF:=ζ (fit_iff s p pl wd v hpl hw hv)
 generalize loM wd = LO at *
 generalize hiM s pl wd = HI at *
 generalize fitM s p (ltr wd) v = FT at *
 have HW : Hid (∀ W,Calls Try.prog 36 #[.int .i64 v,.int .i64 LO,.int .i64 HI] W fun e w' => e = .returned (.bool (decide (LO ≤ v ∧ v ≤ HI))) ∧ W = w'):=fun W => pwithin v LO HI W
 clear n0 hb0 hn hr hn6 hr6 hl hg hpl hw hv
 obtain ⟨bo,hbo⟩ : ∃ bo,decide (LO ≤ v ∧ v ≤ HI) = bo:=⟨_,rfl⟩
 rw [hbo] at HW
 have HBB : Hid (bo = true ↔ FT):=by show _ ↔ _;rw [← HF.out,← hbo];simp
 clear hbo HF
 go_enter Try.func38,Try.ntmps38
 refine wp_seq_k fun K hK => ?_
 have HK:=ζ hK
 clear hK
 go_wp2_with fail
 refine HK.out _ _ ?_
 clear HK K
 generalize w.alloc _ = X at *
 obtain ⟨y0,y1,y2,y3,y4⟩:=cellsY5 XS.out
 refine wp_seq_k fun K hK => ?_
 have HK:=ζ hK
 clear hK
 go_wp2_with fail
 refine (HBo.out _).mono ?_
 rintro e1 w1 ⟨rfl,hb⟩
 have NB1 : Hid (Below w.heap.size w w1):=NB.out.trans (hb.mono NB.out.size)
 clear hb y0 y1 y2 y3 y4 HBo
 go_wp2
 refine HK.out _ _ ?_
 clear HK K
 go_wp2_with fail
 refine (HW.out _).mono ?_
 rintro e2 w2 ⟨rfl,rfl⟩
 clear HW
 go_wp2
 go_ret
 exact ⟨bo,rfl,HBB.out,NB1.out⟩
theorem pinst (s : Syst) (pa : Option Addr) (pc : Nat) (ra : Option Addr) (rc n r pl p : Nat) (op a0 a1 a2 : Int) (w : World) (hn : s.progs.length = n) (hr : s.rooms.length = r) (hn6 : n ≤ 64) (hr6 : r ≤ 64) (hl : 0 ≤ s.locks ∧ s.locks ≤ 64) (hg : 0 ≤ s.groups ∧ s.groups ≤ 64) (hpl : (s.progs.getD p []).length = pl) (hi0 : i64 a0) (hi1 : i64 a1) (hi2 : i64 a2) (hc0 : 0 ≤ s.cells) :
  Calls Try.prog 24 #[.agg #[.slice pa n pc,.slice ra r rc,.int .i64 s.groups,.int .i64 s.locks,.int .i64 s.cells],.int .i64 pl,.agg #[.int .i64 op,.int .i64 a0,.int .i64 a1,.int .i64 a2]] w (RiP (rightM s p ⟨op,a0,a1,a2⟩) w):=by
 have HN1 : Hid (((w.alloc (.cells #[.slice pa n pc,.slice ra r rc,.int .i64 s.groups,.int .i64 s.locks,.int .i64 s.cells] 30)).alloc (.cells #[.int .i64 op,.int .i64 a0,.int .i64 a1,.int .i64 a2] 68)).heap[w.heap.size]? = some (.cells #[.slice pa n pc,.slice ra r rc,.int .i64 s.groups,.int .i64 s.locks,.int .i64 s.cells] 30 (0,0))):=blk_alloc (heap_alloc_new w _)
 have HN2 : Hid (((w.alloc (.cells #[.slice pa n pc,.slice ra r rc,.int .i64 s.groups,.int .i64 s.locks,.int .i64 s.cells] 30)).alloc (.cells #[.int .i64 op,.int .i64 a0,.int .i64 a1,.int .i64 a2] 68)).heap[w.heap.size + 1]? = some (.cells #[.int .i64 op,.int .i64 a0,.int .i64 a1,.int .i64 a2] 68 (0,0))):=by
  have h1:=heap_alloc_new (w.alloc (.cells #[.slice pa n pc,.slice ra r rc,.int .i64 s.groups,.int .i64 s.locks,.int .i64 s.cells] 30)) (.cells #[.int .i64 op,.int .i64 a0,.int .i64 a1,.int .i64 a2] 68)
  have h2 : (w.alloc (.cells #[.slice pa n pc,.slice ra r rc,.int .i64 s.groups,.int .i64 s.locks,.int .i64 s.cells] 30)).heap.size = w.heap.size + 1:=by simp
  rw [h2] at h1;exact h1
 have NB : Hid (Below w.heap.size w ((w.alloc (.cells #[.slice pa n pc,.slice ra r rc,.int .i64 s.groups,.int .i64 s.locks,.int .i64 s.cells] 30)).alloc (.cells #[.int .i64 op,.int .i64 a0,.int .i64 a1,.int .i64 a2] 68))):=((Below.refl _ _).alloc (Nat.le_refl _) _).alloc (by simp) _
 have HFF : Hid (∀ wd v W,0 ≤ wd ∧ wd ≤ 7 → i64 v → Calls Try.prog 38 #[.agg #[.slice pa n pc,.slice ra r rc,.int .i64 s.groups,.int .i64 s.locks,.int .i64 s.cells],.int .i64 pl,.int .i64 wd,.int .i64 v] W (RiP (fitM s p (ltr wd) v) W)):=fun wd v W h1 h2 => pfield s pa pc ra rc n r pl p wd v W hn hr hn6 hr6 hl hg hpl h1 h2
 have HRO : Hid (∀ W,Calls Try.prog 37 #[.int .i64 op,.int .i64 s.cells] W (RoQ op s.cells W)):=fun W => prowOf op s.cells W
 obtain ⟨Z,hZ⟩ : ∃ Z,Z = rightM s p ⟨op,a0,a1,a2⟩:=⟨_,rfl⟩
 have HZ : Hid (Z ↔ (1 ≤ op ∧ op ≤ 16 ∧ fitM s p ((fdM op).getD 0 0) a0 ∧ fitM s p ((fdM op).getD 1 0) a1 ∧ fitM s p ((fdM op).getD 2 0) a2 ∧ ((op = 12 ∨ op = 13) → 0 < s.cells))):=by show _ ↔ _;rw [hZ];exact Iff.rfl
 rw [← hZ]
 have HC:=ζ hc0
 clear hZ hn hr hn6 hr6 hl hg hpl hc0
 go_enter Try.func24,Try.ntmps24
 refine wp_seq_k fun K hK => ?_
 have HK:=ζ hK
 clear hK
 go_wp2
 refine HK.out _ _ ?_
 clear HK K
 generalize World.alloc _ _ = X at *
 generalize hg2 : w.heap.size + 1 = g2 at *
 obtain ⟨y0,y1,y2,y3,y4⟩:=cellsY5 HN1.out
 obtain ⟨z0,z1,z2,z3⟩:=cellsY4 HN2.out
 refine wp_seq_k fun K hK => ?_
 have HK:=ζ hK
 clear hK
 go_wp2_with fail
 refine (HRO.out _).mono ?_
 rintro e1 w1 ⟨b0,b1,b2,ok,rfl,hok,hrow,hb⟩
 have HOK:=ζ hok
 have HROW:=ζ hrow
 have NB1 : Hid (Below w.heap.size w w1):=NB.out.trans (hb.mono NB.out.size)
 have S1:=ζ (blk_keep HN1.out hb)
 have I1:=ζ (blk_keep HN2.out hb)
 clear hok hrow hb y0 y1 y2 y3 y4 z0 z1 z2 z3 HRO HN1 HN2 NB
 have NBx : Hid (Below w.heap.size w ((w1.alloc (.cells #[.int .i64 0,.int .i64 0,.int .i64 0] 97)).setRow w1.heap.size #[.int .i64 b0,.int .i64 b1,.int .i64 b2])):=below_setRow (NB1.out.alloc NB1.out.size _) NB1.out.size
 have NR_ : Hid (((w1.alloc (.cells #[.int .i64 0,.int .i64 0,.int .i64 0] 97)).setRow w1.heap.size #[.int .i64 b0,.int .i64 b1,.int .i64 b2]).heap[w1.heap.size]? = some (.cells #[.int .i64 b0,.int .i64 b1,.int .i64 b2] 97 (0,0))):=setRow_heap _ _ _ _ _ _ (heap_alloc_new w1 _)
 have hbx : Below w1.heap.size w1 ((w1.alloc (.cells #[.int .i64 0,.int .i64 0,.int .i64 0] 97)).setRow w1.heap.size #[.int .i64 b0,.int .i64 b1,.int .i64 b2]):=below_setRow ((Below.refl _ _).alloc (Nat.le_refl _) _) (Nat.le_refl _)
 have NS:=ζ (blk_keep S1.out hbx)
 have NI:=ζ (blk_keep I1.out hbx)
 clear hbx S1 I1 NB1
 go_wp2_with (refine wpList_store_row (by rfl) 97 _ _ (by rfl) w1.heap.size #[.int .i64 b0,.int .i64 b1,.int .i64 b2] (by rfl) (by rfl) 97 _ (heap_alloc_new w1 _) (by kernel_rfl) (by rfl) (by simp [Value.oneCell']) ?_)
 refine HK.out _ _ ?_
 clear HK K
 generalize World.setRow _ _ _ = X1 at *
 generalize w1.heap.size = g3 at *
 cases ok with
 | false =>
  have HNo : Hid (¬ Z):=fun hz => by
   have h1:=HZ.out.1 hz
   have h2:=HOK.out.2 ⟨h1.1,h1.2.1,fun h => by have:=h1.2.2.2.2.2 h;omega⟩
   cases h2
  go_wp2;go_ret;exact ⟨false,rfl,⟨fun h => (by cases h),fun h => absurd h HNo.out⟩,NBx.out⟩
 | true =>
  obtain ⟨hp1,hp2,hp3⟩:=HOK.out.1 rfl
  obtain ⟨l0,l1,l2,r0,r1,r2⟩:=wT_ltr hp1 hp2 (HROW.out rfl)
  have HP:=ζ (And.intro hp1 (And.intro hp2 hp3))
  have HF0:=ζ (fun W => HFF.out b0 a0 W r0 hi0)
  have HF1:=ζ (fun W => HFF.out b1 a1 W r1 hi1)
  have HF2:=ζ (fun W => HFF.out b2 a2 W r2 hi2)
  rw [l0] at HF0;rw [l1] at HF1;rw [l2] at HF2;clear hp1 hp2 hp3 l0 l1 l2 r0 r1 r2 HFF HROW HOK hi0 hi1 hi2;generalize fitM s p ((fdM op).getD 0 0) a0 = F0 at *;generalize fitM s p ((fdM op).getD 1 0) a1 = F1 at *;generalize fitM s p ((fdM op).getD 2 0) a2 = F2 at *;obtain ⟨y0,y1,y2,y3,y4⟩:=cellsY5 NS.out
  obtain ⟨z0,z1,z2,z3⟩:=cellsY4 NI.out
  obtain ⟨v0,v1,v2⟩:=cells3R NR_.out
  go_wp2_with fail
  refine (HF0.out _).mono ?_
  rintro e0_ W1 ⟨x0,rfl,hx0,hb0⟩
  have HX0:=ζ hx0
  have NBy : Hid (Below w.heap.size w W1):=NBx.out.trans (hb0.mono NBx.out.size)
  have S_:=ζ (blk_keep NS.out hb0)
  have I_:=ζ (blk_keep NI.out hb0)
  have R_:=ζ (blk_keep NR_.out hb0)
  clear y0 y1 y2 y3 y4 z0 z1 z2 z3 v0 v1 v2 NBx NS NI NR_ hb0 hx0;have NBx:=NBy
  have NS:=S_
  have NI:=I_
  have NR_:=R_
  clear NBy S_ I_ R_;obtain ⟨y0,y1,y2,y3,y4⟩:=cellsY5 NS.out
  obtain ⟨z0,z1,z2,z3⟩:=cellsY4 NI.out
  obtain ⟨v0,v1,v2⟩:=cells3R NR_.out
  cases x0 with
  | false =>
   have HNo : Hid (¬ Z):=fun hz => by
    have h2:=HX0.out.2 (HZ.out.1 hz).2.2.1
    cases h2
   go_wp2;go_ret;exact ⟨false,rfl,⟨fun h => (by cases h),fun h => absurd h HNo.out⟩,NBx.out⟩
  | true =>
   go_wp2_with fail
   refine (HF1.out _).mono ?_
   rintro e1_ W2 ⟨x1,rfl,hx1,hb1⟩
   have HX1:=ζ hx1
   have NBy : Hid (Below w.heap.size w W2):=NBx.out.trans (hb1.mono NBx.out.size)
   have S_:=ζ (blk_keep NS.out hb1)
   have I_:=ζ (blk_keep NI.out hb1)
   have R_:=ζ (blk_keep NR_.out hb1)
   clear y0 y1 y2 y3 y4 z0 z1 z2 z3 v0 v1 v2 NBx NS NI NR_ hb1 hx1;have NBx:=NBy
   have NS:=S_
   have NI:=I_
   have NR_:=R_
   clear NBy S_ I_ R_;obtain ⟨y0,y1,y2,y3,y4⟩:=cellsY5 NS.out
   obtain ⟨z0,z1,z2,z3⟩:=cellsY4 NI.out
   obtain ⟨v0,v1,v2⟩:=cells3R NR_.out
   cases x1 with
   | false =>
    have HNo : Hid (¬ Z):=fun hz => by
     have h2:=HX1.out.2 (HZ.out.1 hz).2.2.2.1
     cases h2
    go_wp2;go_ret;exact ⟨false,rfl,⟨fun h => (by cases h),fun h => absurd h HNo.out⟩,NBx.out⟩
   | true =>
    go_wp2_with fail
    refine (HF2.out _).mono ?_
    rintro e2_ W3 ⟨x2,rfl,hx2,hb2⟩
    have HX2:=ζ hx2
    have NBy : Hid (Below w.heap.size w W3):=NBx.out.trans (hb2.mono NBx.out.size)
    have S_:=ζ (blk_keep NS.out hb2)
    have I_:=ζ (blk_keep NI.out hb2)
    have R_:=ζ (blk_keep NR_.out hb2)
    clear y0 y1 y2 y3 y4 z0 z1 z2 z3 v0 v1 v2 NBx NS NI NR_ hb2 hx2;have NBx:=NBy
    have NS:=S_
    have NI:=I_
    have NR_:=R_
    clear NBy S_ I_ R_;obtain ⟨y0,y1,y2,y3,y4⟩:=cellsY5 NS.out
    obtain ⟨z0,z1,z2,z3⟩:=cellsY4 NI.out
    obtain ⟨v0,v1,v2⟩:=cells3R NR_.out
    cases x2 with
    | false =>
     have HNo : Hid (¬ Z):=fun hz => by
      have h2:=HX2.out.2 (HZ.out.1 hz).2.2.2.2.1
      cases h2
     go_wp2;go_ret;exact ⟨false,rfl,⟨fun h => (by cases h),fun h => absurd h HNo.out⟩,NBx.out⟩
    | true =>
     have HYes : Hid Z:=HZ.out.2 ⟨HP.out.1,HP.out.2.1,HX0.out.1 (by trivial),HX1.out.1 (by trivial),HX2.out.1 (by trivial),fun h => by have:=HP.out.2.2 h;have:=HC.out;omega⟩
     go_wp2;go_ret;exact ⟨true,rfl,⟨fun _ => HYes.out,fun _ => rfl⟩,NBx.out⟩
end LW
end Go.Proofs.Ytfbnakmmmphedaa
