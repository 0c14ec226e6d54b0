/-
  Pv3, Pv4, Pv5 in one.
-/
import Derived.Test.YtfbnakmmmphedaaPvAo
import Derived.Test.YtfbnakmmmphedaaNlAo
set_option linter.unusedVariables false
set_option linter.unusedSimpArgs false
set_option maxRecDepth 100000
set_option maxHeartbeats 4000000
namespace Go.Proofs.Ytfbnakmmmphedaa
open Go.RowKit
namespace LW
open Mc
def sysL (n a q : Int) : Syst:=⟨[cmL a,wkL,fdL (bu a q) n,clL15],[q,q,bu a q],1,0,bu a q⟩
def prefs : List Nat → Array Bool → List (Array Bool)
 | [],l => [l]
 | i :: r,l => l :: prefs r (l.setIfInBounds i true)
def frS (n a q u : Int) (g : Nat) (l : Array Bool) (V : Nat → Value) : Act:=⟨#[.int .i64 n,.agg #[.int .i64 a,.int .i64 q],undef,.pointer (some ⟨g,0,none⟩),.pointer (some ⟨g + 1,0,none⟩),.int .i64 u,.agg #[.int .i64 a,.int .i64 q],.int .i64 u,.pointer (some ⟨g,0,none⟩),.int .i64 a,RG.slo l V undef 2,RG.slo l V undef 3,.int .i64 u,.int .i64 n,RG.slo l V undef 6,RG.slo l V undef 7,RG.slo l V undef 8,.pointer (some ⟨g,1,none⟩),.int .i64 q,.pointer (some ⟨g,1,none⟩),.int .i64 q,.int .i64 u,RG.slo l V undef 14,.int .i64 u,undef],[]⟩
structure PrS (G : Nat) (n a q u : Int) (i : Nat) (v : Value) (w : World) : Prop where
 c : i = 2 → ∃ A,v = .slice A 15 15 ∧ IR w A (cmL a) ∧ Aw G A
 k : i = 3 → ∃ A,v = .slice A 8 8 ∧ IR w A wkL ∧ Aw G A
 f : i = 6 → ∃ A,v = .slice A 19 19 ∧ IR w A (fdL u n) ∧ Aw G A
 l : i = 7 → ∃ A,v = .slice A 3 3 ∧ IR w A clL15 ∧ Aw G A
 p : i = 8 → ∃ A,v = .slice A 4 4 ∧ PG G w A [cmL a,wkL,fdL u n,clL15]
 r : i = 14 → ∃ A,v = .slice A 3 3 ∧ NR w A [q,q,u] ∧ Aw G A
theorem PrS.below {G : Nat} {n a q u : Int} {i : Nat} {v : Value} {w w' : World} (h : PrS G n a q u i v w) (hb : Below w.heap.size w w') : PrS G n a q u i v w' :=
 ⟨fun e => let ⟨A,e1,e2,e3⟩:=h.c e;⟨A,e1,e2.below hb,e3⟩,fun e => let ⟨A,e1,e2,e3⟩:=h.k e;⟨A,e1,e2.below hb,e3⟩,fun e => let ⟨A,e1,e2,e3⟩:=h.f e;⟨A,e1,e2.below hb,e3⟩,fun e => let ⟨A,e1,e2,e3⟩:=h.l e;⟨A,e1,e2.below hb,e3⟩,fun e => let ⟨A,e1,e2⟩:=h.p e;⟨A,e1,e2.below hb⟩,fun e => let ⟨A,e1,e2,e3⟩:=h.r e;⟨A,e1,e2.below hb,e3⟩⟩
theorem NR_block {w : World} {b : Nat} {t : TypeId} {xs : List Int} (h : w.heap[b]? = some (.cells (xs.map (Value.int .i64)).toArray t (0,0))) : NR w (some ⟨b,0,none⟩) xs:=by
 refine .inr ⟨b,0,rfl,fun j hj => ?_⟩
 simp [World.cell?,h,List.getD_eq_getElem?_getD,List.getElem?_eq_getElem hj]
theorem PG_block {G : Nat} {w : World} {b : Nat} {t : TypeId} {A1 A2 A3 A4 : Option Addr} {l1 l2 l3 l4 : List Ins} (h : w.heap[b]? = some (.cells #[.slice A1 l1.length l1.length,.slice A2 l2.length l2.length,.slice A3 l3.length l3.length,.slice A4 l4.length l4.length] t (0,0))) (hG : G ≤ b)
  (h1 : IR w A1 l1) (h2 : IR w A2 l2) (h3 : IR w A3 l3) (h4 : IR w A4 l4) (g1 : Aw G A1) (g2 : Aw G A2) (g3 : Aw G A3) (g4 : Aw G A4) : PG G w (some ⟨b,0,none⟩) [l1,l2,l3,l4]:=by
 refine ⟨b,rfl,hG,fun p hp => ?_⟩
 have : p = 0 ∨ p = 1 ∨ p = 2 ∨ p = 3:=by simp at hp;omega
 rcases this with rfl | rfl | rfl | rfl
 ·exact ⟨A1,l1.length,by simp [World.cell?,h],h1,g1⟩
 ·exact ⟨A2,l2.length,by simp [World.cell?,h],h2,g2⟩
 ·exact ⟨A3,l3.length,by simp [World.cell?,h],h3,g3⟩
 ·exact ⟨A4,l4.length,by simp [World.cell?,h],h4,g4⟩
theorem psystemG (n a q : Int) (w : World) (h0 : vp a q = 0) : Calls Try.prog 11 #[.int .i64 n,.agg #[.int .i64 a,.int .i64 q]] w fun e w' => (∃ pa ra,e = .returned (.agg (syC (sysL n a q) pa 4 ra 3)) ∧ PG w.heap.size w' pa (sysL n a q).progs ∧ NR w' ra (sysL n a q).rooms ∧ Aw w.heap.size ra) ∧ Below w.heap.size w w':=by
 have HU:=ζ (fun W => pbuffers a q W h0)
 have HC:=ζ (fun W => pcombiner a W)
 have HW:=ζ (fun W => pworker W)
 have HF:=ζ (fun W => pfeeder (bu a q) n W)
 have HL:=ζ (fun W => pcloser W)
 generalize hS : sysL n a q = S
 unfold sysL at hS
 generalize bu a q = u at *
 have HS:=ζ hS
 clear hS
 have z1 : (w.alloc (.cells #[.int .i64 a,.int .i64 q] 23)).heap.size = w.heap.size + 1:=by simp
 have n0:=blk_alloc (o':=.cells #[.slice none 0 0,.slice none 0 0,.int .i64 0,.int .i64 0,.int .i64 0] 30) (heap_alloc_new w (.cells #[.int .i64 a,.int .i64 q] 23))
 have n1:=heap_alloc_new (w.alloc (.cells #[.int .i64 a,.int .i64 q] 23)) (.cells #[.slice none 0 0,.slice none 0 0,.int .i64 0,.int .i64 0,.int .i64 0] 30)
 rw [z1] at n1
 have N0:=ζ n0
 have N1:=ζ n1
 have HB:=ζ (((Below.refl w.heap.size w).alloc (Nat.le_refl _) (.cells #[.int .i64 a,.int .i64 q] 23)).alloc (by rw [z1];omega) (.cells #[.slice none 0 0,.slice none 0 0,.int .i64 0,.int .i64 0,.int .i64 0] 30))
 obtain ⟨c0,c1⟩:=cells2 n0
 clear n0 n1 z1
 go_enter Try.func11,Try.ntmps11
 go_wp2_with fail
 refine (HU.out _).mono ?_
 rintro e1 w1 ⟨rfl,hb1⟩
 have N0:=ζ (blk_keep N0.out hb1)
 have N1:=ζ (blk_keep N1.out hb1)
 have HB:=ζ (HB.out.trans (hb1.mono HB.out.size))
 clear hb1 c0 c1
 generalize hg : w.heap.size = g at *
 have HG:=ζ hg
 clear hg
 go_wp2_with fail
 refine wp_region_noPanic ?_
 refine RG.wp_region_L (fun Z => True) (fun Z => Z.heap[g]? = some (.cells #[.int .i64 a,.int .i64 q] 23 (0,0))) [] (by kernel_rfl) ?_
 refine RG.wpL_any fun Y hY => ?_
 have hH : Y.heap = w1.heap:=by rw [hY];rfl
 have HT : Hid (Y.heap[g]? = some (.cells #[.int .i64 a,.int .i64 q] 23 (0,0))):=by rw [hH];exact N0.out
 have M1 : Hid (Y.heap[g + 1]? = some (.cells #[.slice none 0 0,.slice none 0 0,.int .i64 0,.int .i64 0,.int .i64 0] 30 (0,0))):=by rw [hH];exact N1.out
 have BY : Hid (Below g w Y):=by rw [hY];exact below_drewN HB.out 1
 clear hY hH
 refine RG.wpL_take (fuel:=8) (a':=?Aa) [0,1,4,5,9,10,11,12,13,15] (by kernel_rfl) (by kernel_rfl) (fun _ _ _ _ _ h => h) HT.out (fun _ => trivial) ?ra ?_
 case ra =>
  refine RG.rW ?_ (fun Z hT => ?_) ?_
  rotate_left
  ·go_simp
   rfl
  simp only [Act.put,lA,lB,lC,lD,lE,lF]
  refine RG.rW (.int .i64 a) (fun Z hT => ?_) ?_
  ·obtain ⟨c0,c1⟩:=cells2 hT
   go_simp
  simp only [Act.put,lA,lB,lC,lD,lE,lF]
  iterate 3
   refine RG.rW ?_ (fun Z hT => ?_) ?_
   rotate_left
   ·go_simp
    rfl
   simp only [Act.put,lA,lB,lC,lD,lE,lF]
  refine RG.rW (.int .i64 q) (fun Z hT => ?_) ?_
  ·obtain ⟨c0,c1⟩:=cells2 hT
   go_simp
  simp only [Act.put,lA,lB,lC,lD,lE,lF]
  refine RG.rW ?_ (fun Z hT => ?_) ?_
  rotate_left
  ·go_simp
   rfl
  simp only [Act.put,lA,lB,lC,lD,lE,lF]
  refine RG.rW (.int .i64 q) (fun Z hT => ?_) ?_
  ·obtain ⟨c0,c1⟩:=cells2 hT
   go_simp
  simp only [Act.put,lA,lB,lC,lD,lE,lF]
  iterate 2
   refine RG.rW ?_ (fun Z hT => ?_) ?_
   rotate_left
   ·go_simp
    rfl
   simp only [Act.put,lA,lB,lC,lD,lE,lF]
  exact RG.RunsIf.nil
 have hs1 : ((prefs [2,3,6,7,8] (RG.take [0,1,4,5,9,10,11,12,13,15] (Array.replicate 18 false)) ++ prefs [2,3,6,7,8] ((RG.take [0,1,4,5,9,10,11,12,13,15] (Array.replicate 18 false)).setIfInBounds 14 true)).all fun l => l.size == 18) = true:=by kernel_rfl
 refine RG.wpL_makers [2,3,6,7,8,14] (prefs [2,3,6,7,8] (RG.take [0,1,4,5,9,10,11,12,13,15] (Array.replicate 18 false)) ++ prefs [2,3,6,7,8] ((RG.take [0,1,4,5,9,10,11,12,13,15] (Array.replicate 18 false)).setIfInBounds 14 true)) (RG.take [0,1,4,5,9,10,11,12,13,15,2,3,6,7,8,14] (Array.replicate 18 false)) (frS n a q u g) (PrS (g + 2) n a q u) Y 2 (by kernel_rfl) (fun Z hZ => blk_keep HT.out hZ) (fun Z hZ => trivial) (fun i v w w' h hb => h.below hb) ?_ ?_ (n:=6) (V0:=fun _ => undef) (by simp [prefs]) (by kernel_rfl) (by decide)
 ·intro l hl V W hw hp i hi hr K hK
  have hsz : l.size = 18:=by simpa using List.all_eq_true.1 hs1 l hl
  have hG2 : g + 2 ≤ W.heap.size:=Nat.lt_of_lt_of_le (blk_lt M1.out) hw.size
  simp only [List.mem_cons,List.not_mem_nil,or_false] at hi
  rcases hi with rfl | rfl | rfl | rfl | rfl | rfl
  ·refine RG.wpOp_of (by rfl) (by rfl) ?_
   unfold frS;go_simp;refine (HC.out _).mono ?_
   rintro e w' ⟨⟨A,rfl,hI,hA⟩,hb⟩
   have:=hK (.slice A 15 15) w' hb ⟨fun _ => ⟨A,rfl,hI,hA.low hG2⟩,fun h => absurd h (by decide),fun h => absurd h (by decide),fun h => absurd h (by decide),fun h => absurd h (by decide),fun h => absurd h (by decide)⟩
   unfold frS at this;rw [RG.slo_self (by rw [hsz];decide),RG.slo_ne (by decide : (3 : Nat) ≠ 2),RG.slo_ne (by decide : (6 : Nat) ≠ 2),RG.slo_ne (by decide : (7 : Nat) ≠ 2),RG.slo_ne (by decide : (8 : Nat) ≠ 2),RG.slo_ne (by decide : (14 : Nat) ≠ 2)] at this
   exact this
  ·refine RG.wpOp_of (by rfl) (by rfl) ?_
   unfold frS;go_simp;refine (HW.out _).mono ?_
   rintro e w' ⟨⟨A,rfl,hI,hA⟩,hb⟩
   have:=hK (.slice A 8 8) w' hb ⟨fun h => absurd h (by decide),fun _ => ⟨A,rfl,hI,hA.low hG2⟩,fun h => absurd h (by decide),fun h => absurd h (by decide),fun h => absurd h (by decide),fun h => absurd h (by decide)⟩
   unfold frS at this;rw [RG.slo_self (by rw [hsz];decide),RG.slo_ne (by decide : (2 : Nat) ≠ 3),RG.slo_ne (by decide : (6 : Nat) ≠ 3),RG.slo_ne (by decide : (7 : Nat) ≠ 3),RG.slo_ne (by decide : (8 : Nat) ≠ 3),RG.slo_ne (by decide : (14 : Nat) ≠ 3)] at this
   exact this
  ·refine RG.wpOp_of (by rfl) (by rfl) ?_
   unfold frS;go_simp;refine (HF.out _).mono ?_
   rintro e w' ⟨⟨A,rfl,hI,hA⟩,hb⟩
   have:=hK (.slice A 19 19) w' hb ⟨fun h => absurd h (by decide),fun h => absurd h (by decide),fun _ => ⟨A,rfl,hI,hA.low hG2⟩,fun h => absurd h (by decide),fun h => absurd h (by decide),fun h => absurd h (by decide)⟩
   unfold frS at this;rw [RG.slo_self (by rw [hsz];decide),RG.slo_ne (by decide : (2 : Nat) ≠ 6),RG.slo_ne (by decide : (3 : Nat) ≠ 6),RG.slo_ne (by decide : (7 : Nat) ≠ 6),RG.slo_ne (by decide : (8 : Nat) ≠ 6),RG.slo_ne (by decide : (14 : Nat) ≠ 6)] at this
   exact this
  ·refine RG.wpOp_of (by rfl) (by rfl) ?_
   unfold frS;go_simp;refine (HL.out _).mono ?_
   rintro e w' ⟨⟨A,rfl,hI,hA⟩,hb⟩
   have:=hK (.slice A 3 3) w' hb ⟨fun h => absurd h (by decide),fun h => absurd h (by decide),fun h => absurd h (by decide),fun _ => ⟨A,rfl,hI,hA.low hG2⟩,fun h => absurd h (by decide),fun h => absurd h (by decide)⟩
   unfold frS at this;rw [RG.slo_self (by rw [hsz];decide),RG.slo_ne (by decide : (2 : Nat) ≠ 7),RG.slo_ne (by decide : (3 : Nat) ≠ 7),RG.slo_ne (by decide : (6 : Nat) ≠ 7),RG.slo_ne (by decide : (8 : Nat) ≠ 7),RG.slo_ne (by decide : (14 : Nat) ≠ 7)] at this
   exact this
  ·have hh:=RG.after_of (i:=8) (by rfl) hr
   have e2:=hh ⟨2,.data⟩ (by simp) (by rfl)
   have e3:=hh ⟨3,.data⟩ (by simp) (by rfl)
   have e6:=hh ⟨6,.data⟩ (by simp) (by rfl)
   have e7:=hh ⟨7,.data⟩ (by simp) (by rfl)
   clear hh;obtain ⟨A2,v2,i2,g2⟩:=(hp 2 (by simp) e2).c rfl
   obtain ⟨A3,v3,i3,g3⟩:=(hp 3 (by simp) e3).k rfl
   obtain ⟨A6,v6,i6,g6⟩:=(hp 6 (by simp) e6).f rfl
   obtain ⟨A7,v7,i7,g7⟩:=(hp 7 (by simp) e7).l rfl
   refine RG.wpOp_of (by rfl) (by rfl) ?_
   unfold frS;rw [RG.slo_on e2,RG.slo_on e3,RG.slo_on e6,RG.slo_on e7,v2,v3,v6,v7];have hbn:=(Below.refl W.heap.size W).alloc (Nat.le_refl _) (.cells #[.slice A2 15 15,.slice A3 8 8,.slice A6 19 19,.slice A7 3 3] 62)
   have:=hK (.slice (some ⟨W.heap.size,0,none⟩) 4 4) (W.alloc (.cells #[.slice A2 15 15,.slice A3 8 8,.slice A6 19 19,.slice A7 3 3] 62)) hbn ⟨fun h => absurd h (by decide),fun h => absurd h (by decide),fun h => absurd h (by decide),fun h => absurd h (by decide),fun _ => ⟨_,rfl,PG_block (l1:=cmL a) (l2:=wkL) (l3:=fdL u n) (l4:=clL15) (heap_alloc_new W _) hG2 (i2.below hbn) (i3.below hbn) (i6.below hbn) (i7.below hbn) g2 g3 g6 g7⟩,fun h => absurd h (by decide)⟩
   clear hK hbn;unfold frS at this;rw [RG.slo_self (by rw [hsz];decide),RG.slo_ne (by decide : (2 : Nat) ≠ 8),RG.slo_ne (by decide : (3 : Nat) ≠ 8),RG.slo_ne (by decide : (6 : Nat) ≠ 8),RG.slo_ne (by decide : (7 : Nat) ≠ 8),RG.slo_ne (by decide : (14 : Nat) ≠ 8),RG.slo_on e2,RG.slo_on e3,RG.slo_on e6,RG.slo_on e7,v2,v3,v6,v7] at this
   go_simp;exact this
  ·refine RG.wpOp_of (by rfl) (by rfl) ?_
   unfold frS;have hbn:=(Below.refl W.heap.size W).alloc (Nat.le_refl _) (.cells #[.int .i64 q,.int .i64 q,.int .i64 u] 3)
   have:=hK (.slice (some ⟨W.heap.size,0,none⟩) 3 3) (W.alloc (.cells #[.int .i64 q,.int .i64 q,.int .i64 u] 3)) hbn ⟨fun h => absurd h (by decide),fun h => absurd h (by decide),fun h => absurd h (by decide),fun h => absurd h (by decide),fun h => absurd h (by decide),fun _ => ⟨_,rfl,NR_block (xs:=[q,q,u]) (heap_alloc_new W _),(Aw.new _).low hG2⟩⟩
   clear hK hbn;go_simp;unfold frS at this;rw [RG.slo_self (by rw [hsz];decide),RG.slo_ne (by decide : (2 : Nat) ≠ 14),RG.slo_ne (by decide : (3 : Nat) ≠ 14),RG.slo_ne (by decide : (6 : Nat) ≠ 14),RG.slo_ne (by decide : (7 : Nat) ≠ 14),RG.slo_ne (by decide : (8 : Nat) ≠ 14)] at this
   exact this
 ·intro V W hw hp
  obtain ⟨pa,v8,i8⟩:=(hp 8 (by simp) (by kernel_rfl)).p rfl
  obtain ⟨ra,v14,i14,g14⟩:=(hp 14 (by simp) (by kernel_rfl)).r rfl
  unfold frS;rw [RG.slo_on (i:=8) (by kernel_rfl),RG.slo_on (i:=14) (by kernel_rfl),v8,v14];generalize RG.slo _ V undef 2 = x2
  generalize RG.slo _ V undef 3 = x3
  generalize RG.slo _ V undef 6 = x6
  generalize RG.slo _ V undef 7 = x7
  have HT2:=ζ (blk_keep HT.out hw)
  have M2:=ζ (blk_keep M1.out hw)
  have B2 : Hid (Below g w W):=BY.out.trans (hw.mono (Nat.le_of_lt (blk_lt HT.out)))
  have I8:=ζ i8
  have I14:=ζ i14
  clear i8 i14 hp hw HT M1 BY;refine RG.wpL_take (fuel:=1) (a':=?Ab) [16] (by kernel_rfl) (by kernel_rfl) (fun _ _ _ _ _ h => h) HT2.out (fun _ => trivial) ?rb ?_
  case rb =>
   refine RG.rW (.agg #[.slice pa 4 4,.slice ra 3 3,.int .i64 1,.int .i64 0,.int .i64 u]) (fun Z hT => ?_) ?_
   ·go_simp
   simp only [Act.put,lA,lB,lC,lD,lE,lF]
   exact RG.RunsIf.nil
  refine RG.wpL_step (i:=17) (by kernel_rfl) (by rfl) (by rfl) (fun KX hK => ?_)
  have HK:=ζ hK
  clear hK;refine wp_store_row 30 _ _ (by rfl) (g + 1) #[.slice pa 4 4,.slice ra 3 3,.int .i64 1,.int .i64 0,.int .i64 u] (by rfl) (by rfl) 30 _ M2.out (by kernel_rfl) (by rfl) (by simp [Value.oneCell']) ?_
  try simp only [Act.put,lA,lB,lC,lD,lE,lF]
  have hgl : g + 1 < W.heap.size:=blk_lt M2.out
  have B3 : Hid (Below g w (W.setRow (g + 1) #[.slice pa 4 4,.slice ra 3 3,.int .i64 1,.int .i64 0,.int .i64 u])):=below_setRow B2.out (by omega)
  have M3:=ζ (setRow_heap _ _ _ #[.slice pa 4 4,.slice ra 3 3,.int .i64 1,.int .i64 0,.int .i64 u] _ _ M2.out)
  refine HK.out _ _ ((setRow_other _ _ _ _ (by omega)).trans HT2.out) (fun _ => trivial) ?_
  clear HK KX;refine RG.wpL_done (by kernel_rfl) ?_ _
  refine NoPanic.normal ?_
  have SM8:=ζ (I8.out.set (cs:=#[.slice pa 4 4,.slice ra 3 3,.int .i64 1,.int .i64 0,.int .i64 u]) (Nat.lt_succ_self (g + 1)))
  have SM14:=ζ (I14.out.row (cs:=#[.slice pa 4 4,.slice ra 3 3,.int .i64 1,.int .i64 0,.int .i64 u]) g14 (Nat.lt_succ_self (g + 1)))
  have G14:=ζ g14
  clear I8 I14 g14 M2 B2 HT2;generalize W.setRow _ _ = X at *;go_wp2;refine bodyPost_ret (v:=.agg #[.slice pa 4 4,.slice ra 3 3,.int .i64 1,.int .i64 0,.int .i64 u]) (results_cell_row (P:=Try.prog) Try.results11 _ _ (g + 1) 30 _ (0,0) _ (by rfl) M3.out Try.underlying30 rfl (by kernel_rfl)) rfl ?_
  have hS:=HS.out
  subst hS;exact ⟨⟨pa,ra,rfl,SM8.out.low (by rw [HG.out];omega),SM14.out,G14.out.low (by rw [HG.out];omega)⟩,by rw [HG.out];exact B3.out⟩
end LW
end Go.Proofs.Ytfbnakmmmphedaa
namespace Go.Proofs.Ytfbnakmmmphedaa
open Go.RowKit
namespace LW
open Mc
end LW
end Go.Proofs.Ytfbnakmmmphedaa
namespace Go.Proofs.Ytfbnakmmmphedaa
open Go.RowKit
namespace LW
open Mc
def s0 : Syst:=⟨[],[],0,0,0⟩
theorem SM_0 (w : World) : SM w s0 none none:=⟨.inl rfl,.inl rfl⟩
def SyP (n a q : Int) (w : World) (e : Ending) (w' : World) : Prop:=(∃ pa pc ra rc,e = .returned (.tuple #[.agg (syC (if ft n a q = 0 then sysL n a q else s0) pa pc ra rc),.int .i64 (ft n a q)]) ∧ SM w' (if ft n a q = 0 then sysL n a q else s0) pa ra) ∧ Below w.heap.size w w'
theorem pSystem (n a q : Int) (w : World) : Calls Try.prog 6 #[.int .i64 n,.agg #[.int .i64 a,.int .i64 q]] w (SyP n a q w):=by
 have HF:=ζ (fun W => pfits15 n a q W)
 have HP:=ζ (fun W h => psystemG n a q W h)
 have HI:=ζ (fun h => (@ft0 n a q h).1)
 generalize hPP : SyP n a q w = PP
 generalize hf : ft n a q = f at HF HI
 generalize hz : vp a q = z at HP HI
 have HPP:=ζ hPP
 have HFF:=ζ hf
 clear hz hPP hf
 have z1 : (w.alloc (.cells #[.int .i64 a,.int .i64 q] 23)).heap.size = w.heap.size + 1:=by simp
 have n0:=blk_alloc (o':=.cells #[.slice none 0 0,.slice none 0 0,.int .i64 0,.int .i64 0,.int .i64 0] 30) (heap_alloc_new w (.cells #[.int .i64 a,.int .i64 q] 23))
 have n1:=heap_alloc_new (w.alloc (.cells #[.int .i64 a,.int .i64 q] 23)) (.cells #[.slice none 0 0,.slice none 0 0,.int .i64 0,.int .i64 0,.int .i64 0] 30)
 rw [z1] at n1
 have N0:=ζ n0
 have N1:=ζ n1
 have HB:=ζ (((Below.refl w.heap.size w).alloc (Nat.le_refl _) (.cells #[.int .i64 a,.int .i64 q] 23)).alloc (by rw [z1];omega) (.cells #[.slice none 0 0,.slice none 0 0,.int .i64 0,.int .i64 0,.int .i64 0] 30))
 obtain ⟨c0,c1⟩:=cells2 n0
 clear n0 n1 z1
 go_enter Try.func6,Try.ntmps6
 go_wp2_with fail
 refine (HF.out _).mono ?_
 rintro e1 w1 ⟨rfl,hb1⟩
 have N0:=ζ (blk_keep N0.out hb1)
 have N1:=ζ (blk_keep N1.out hb1)
 have HB:=ζ (HB.out.trans (hb1.mono HB.out.size))
 obtain ⟨c0,c1⟩:=cells2 N0.out
 clear hb1
 generalize hg : w.heap.size = g at *
 have HG:=ζ hg
 clear hg
 by_cases h : f = 0
 ·subst h
  have hI:=HI.out (by first | rfl | trivial)
  go_wp2_with fail
  refine (HP.out _ hI).mono ?_
  rintro e2 w2 ⟨⟨pa,ra,rfl,hP,hR,hA⟩,hb2⟩
  have HP1:=ζ hP
  have HR1:=ζ hR
  have HA1:=ζ hA
  have hlt : g + 1 < w1.heap.size:=blk_lt N1.out
  have N1:=ζ (blk_keep N1.out hb2)
  have HB:=ζ (HB.out.trans (hb2.mono (by omega)))
  clear hb2 hP hR hA c0 c1 N0;unfold sysL at HP1 HR1;unfold syC sysL;generalize hu : bu a q = u at *;have HUU:=ζ hu
  clear hu;go_wp2_with (refine wpList_store_row (by rfl) 30 _ _ (by rfl) (g + 1) #[.slice pa 4 4,.slice ra 3 3,.int .i64 1,.int .i64 0,.int .i64 u] (by rfl) (by rfl) 30 _ N1.out (by kernel_rfl) (by rfl) (by simp [Value.oneCell']) ?_)
  refine bodyPost_ret (v:=.tuple #[.agg #[.slice pa 4 4,.slice ra 3 3,.int .i64 1,.int .i64 0,.int .i64 u],.int .i64 0]) (results_row_tmp (P:=Try.prog) Try.results6 _ _ (g + 1) 30 _ (0,0) _ _ (by rfl) (by rfl) (setRow_heap _ _ _ _ _ _ N1.out) Try.underlying30 rfl (by kernel_rfl)) rfl ?_
  rw [← HPP.out];have hf:=HFF.out
  have hu:=HUU.out
  subst hu;unfold SyP;rw [hf];refine ⟨⟨pa,4,ra,3,rfl,HP1.out.pr hlt,HR1.out.row HA1.out hlt⟩,?_⟩
  rw [HG.out];exact below_setRow HB.out (by omega)
 ·go_wp2_with (refine wpList_store_row (by rfl) 30 _ _ (by rfl) (g + 1) #[.slice none 0 0,.slice none 0 0,.int .i64 0,.int .i64 0,.int .i64 0] (by rfl) (by rfl) 30 _ N1.out (by kernel_rfl) (by rfl) (by simp [Value.oneCell']) ?_)
  refine bodyPost_ret (v:=.tuple #[.agg #[.slice none 0 0,.slice none 0 0,.int .i64 0,.int .i64 0,.int .i64 0],.int .i64 f]) (results_row_tmp (P:=Try.prog) Try.results6 _ _ (g + 1) 30 _ (0,0) _ _ (by rfl) (by rfl) (setRow_heap _ _ _ _ _ _ N1.out) Try.underlying30 rfl (by kernel_rfl)) rfl ?_
  rw [← HPP.out];have hf:=HFF.out
  unfold SyP;rw [hf,if_neg h];refine ⟨⟨none,0,none,0,rfl,SM_0 _⟩,?_⟩
  rw [HG.out];exact below_setRow HB.out (by omega)
end LW
end Go.Proofs.Ytfbnakmmmphedaa
