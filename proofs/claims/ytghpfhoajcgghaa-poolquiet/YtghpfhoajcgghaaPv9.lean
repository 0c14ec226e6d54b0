/-
  The law PoolQuiet.
-/
import Derived.Test.YtghpfhoajcgghaaPv5
import Derived.Test.YtghpfhoajcgghaaSysP
import Derived.Test.YtghpfhoajcgghaaPq3
namespace Go.Proofs.Ytghpfhoajcgghaa
open Go.RowKit
set_option linter.unusedVariables false
set_option linter.unusedSimpArgs false
namespace LW
open Mc
theorem sysL_psys (n a q : Int) : sysL n a q = PQ.psys n a q (bu a q) := rfl
theorem hyP {n a q : Int} (hv : vp a q = 0) (h0 : 0 ≤ n) (h1 : n ≤ 1024) : PQ.Hy n a q (bu a q) ∧ q ≤ 1024 := by
  obtain ⟨v1, v2, v3, v4⟩ := vp0 hv
  refine ⟨⟨⟨h0, h1⟩, ⟨v1, v2⟩, v3, ?_⟩, v4⟩
  unfold bu
  split <;> omega
theorem ft_of {n a q : Int} (hv : vp a q = 0) (h0 : 0 ≤ n) (h1 : n ≤ 1024) : ft n a q = 0 := by
  unfold ft ou
  rw [if_neg (by simp [hv]), if_neg]
  simp
  omega
/-- The document's Valid at the pool's system. -/
theorem rvalidP {n a q : Int} (hv : vp a q = 0) (h0 : 0 ≤ n) (h1 : n ≤ 1024) (pa : Option Addr) (pc : Nat) (ra : Option Addr) (rc : Nat) (w : World) (hS : SM w (sysL n a q) pa ra) :
    Calls Try.prog 9 #[.agg (syC (sysL n a q) pa pc ra rc)] w fun e w' => e = .returned (.bool true) ∧ Below w.heap.size w w' := by
  obtain ⟨hy, hq⟩ := hyP hv h0 h1
  refine (rvalid13 (sysL n a q) pa pc ra rc 4 3 w hS rfl rfl (by omega) (by omega) (fun p => ?_)).mono ?_
  · match p with
    | 0 => simp [sysL, cmL]
    | 1 => simp [sysL, wkL]
    | 2 => simp [sysL, fdL]
    | 3 => simp [sysL, clL]
    | p + 4 => simp [sysL]
  · rintro e w' ⟨x, rfl, hx, hb⟩
    rw [hx.2 (PQ.okP hy hq)]
    exact ⟨rfl, hb⟩
/-- The document's Play at the pool's system. -/
theorem rplayP {n a q : Int} (hv : vp a q = 0) (h0 : 0 ≤ n) (h1 : n ≤ 1024) (pa : Option Addr) (pc : Nat) (ra : Option Addr) (rc : Nat) (pka : Option Addr) (pkc : Nat) (picks : List Int) (w : World) (hS : SM w (sysL n a q) pa ra) (hp : NR w pka picks) (hpl : picks.length ≤ 9223372036854775807) :
    Calls Try.prog 10 #[.agg (syC (sysL n a q) pa pc ra rc), .slice pka picks.length pkc] w fun e w' => (∃ ea ec ca cl cc, ∃ m : Nat, e = .returned (.agg #[.int .i64 1, .int .i64 0, .slice ea m ec, .int .i64 (a + 3), .slice ca cl cc]) ∧ (m : Int) = bd n a q) ∧ Below w.heap.size w w' := by
  obtain ⟨hy, hq⟩ := hyP hv h0 h1
  obtain ⟨t, hpl', he, hr⟩ := PQ.playQ hy picks
  refine (rplay (sysL n a q) pa pc ra rc pka pkc picks w hS (PQ.okP hy hq) (PQ.nmP hy) hp hpl).mono ?_
  rintro e w' ⟨ev, cv, rfl, hev, hcv, hb⟩
  rw [sysL_psys, hpl'] at hev hcv
  obtain ⟨ea, ec, rfl⟩ := own_open13 hev
  obtain ⟨ca, cc, rfl⟩ := own_open13 hcv
  refine ⟨⟨ea, ec, ca, _, cc, _, by rw [sysL_psys, hpl', hr], ?_⟩, hb⟩
  unfold bd
  rw [if_pos (ft_of hv h0 h1), he]
set_option maxHeartbeats 8000000 in
theorem quietW (j a q : Int) (pka : Option Addr) (pkc : Nat) (picks : List Int) (w : World) (hj0 : 0 ≤ j) (hj1 : j ≤ 255) (hp : PkI w pka pkc picks) : Calls Try.prog 3 #[.int .u8 j, .agg #[.int .i64 a, .int .i64 q], .slice pka picks.length pkc] w fun e w' => e = .returned (.bool true) ∧ Below w.heap.size w w' := by
  have HA := TW.hide awake15
  have H8 := TW.hide (fun W => rvalid a q W)
  have n0 := heap_alloc_new w (.cells #[.int .i64 a, .int .i64 q] 23)
  have hb := (Below.refl w.heap.size w).alloc (Nat.le_refl _) (.cells #[.int .i64 a, .int .i64 q] 23)
  obtain ⟨c0, c1⟩ := cells2 n0
  have N0 := TW.hide n0
  have HB := TW.hide hb
  have HPk := TW.hide (hp.below hb)
  have hln := hp.ln
  clear n0 hb hp
  by_cases hv : vp a q = 0
  · have hn0 : 0 ≤ j % 40 := by omega
    have hn1 : j % 40 ≤ 1024 := by omega
    have H3 := TW.hide (fun W => pSystem (j % 40) a q W)
    have H5 := TW.hide (fun W => pbound (j % 40) a q W)
    have HV := TW.hide (fun pa pc ra rc W => rvalidP hv hn0 hn1 pa pc ra rc W)
    have HP := TW.hide (fun pa pc ra rc pka pkc W h1 h2 => rplayP hv hn0 hn1 pa pc ra rc pka pkc picks W h1 h2 (by omega))
    have hft := ft_of hv hn0 hn1
    have ha3 : IntKind.i64.wrap (a + 3) = a + 3 := PQ.wrap_id (by have := vp0 hv; omega)
    have hjw : IntKind.u8.wrap (j % 40) = j % 40 := by rw [IntKind.wrap_u8]; omega
    have hjw2 : IntKind.i64.wrap (j % 40) = j % 40 := PQ.wrap_id (by omega)
    unfold SyP at H3
    rw [hft] at H3 H5
    rw [hv] at H8
    simp only [if_true] at H3
    generalize sysL (j % 40) a q = s at *
    generalize bd (j % 40) a q = d at *
    unfold syC at H3 HV HP
    generalize s.rooms.length = M at *
    generalize s.progs.length = N at *
    generalize s.groups = x1 at *
    generalize s.locks = x2 at *
    generalize s.cells = x3 at *
    generalize picks.length = pl at *
    go_enter Try.func3, Try.ntmps3
    go_wp2_with fail
    refine (HA.out _).mono ?_
    rintro e1 w1 ⟨rfl, hb⟩
    have hsz1 : w.heap.size ≤ (w.alloc (.cells #[.int .i64 a, .int .i64 q] 23)).heap.size := HB.out.size
    have N0 := TW.hide (blk_keep N0.out hb)
    have HPk := TW.hide (HPk.out.below hb)
    have HB := TW.hide (HB.out.trans (hb.mono hsz1))
    clear c0 c1
    obtain ⟨c0, c1⟩ := cells2 N0.out
    clear hb hsz1
    go_wp2_with fail
    refine (H8.out _).mono ?_
    rintro e2 w2 ⟨rfl, hb⟩
    have hsz2 : w.heap.size ≤ w1.heap.size := HB.out.size
    have N0 := TW.hide (blk_keep N0.out hb)
    have HPk := TW.hide (HPk.out.below hb)
    have HB := TW.hide (HB.out.trans (hb.mono hsz2))
    clear c0 c1
    obtain ⟨c0, c1⟩ := cells2 N0.out
    clear hb hsz2
    go_wp2_with fail
    refine (H3.out _).mono ?_
    rintro e3 w3 ⟨⟨pa, pc, ra, rc, rfl, hSa⟩, hb⟩
    have hsz3 : w.heap.size ≤ w2.heap.size := HB.out.size
    have N0 := TW.hide (blk_keep N0.out hb)
    have HPk := TW.hide (HPk.out.below hb)
    have HB := TW.hide (HB.out.trans (hb.mono hsz3))
    clear c0 c1
    obtain ⟨c0, c1⟩ := cells2 N0.out
    have SA := TW.hide hSa
    clear hSa hb hsz3
    have NN3 := TW.hide (heap_alloc_new w3 (.cells #[.slice none 0 0, .slice none 0 0, .int .i64 0, .int .i64 0, .int .i64 0] 29))
    have hlt3 : w.heap.size < w3.heap.size := blk_lt N0.out
    have M3 := TW.hide (setRow_heap _ _ _ #[.slice pa N pc, .slice ra M rc, .int .i64 x1, .int .i64 x2, .int .i64 x3] _ _ NN3.out)
    have BX3 := TW.hide (below_setRow (g := w3.heap.size) (cs := #[.slice pa N pc, .slice ra M rc, .int .i64 x1, .int .i64 x2, .int .i64 x3]) (HB.out.alloc (Nat.le_of_lt hlt3) (.cells #[.slice none 0 0, .slice none 0 0, .int .i64 0, .int .i64 0, .int .i64 0] 29)) (Nat.le_of_lt hlt3))
    have BY3 := TW.hide (below_setRow (g := w3.heap.size) (cs := #[.slice pa N pc, .slice ra M rc, .int .i64 x1, .int .i64 x2, .int .i64 x3]) ((Below.refl w3.heap.size w3).alloc (Nat.le_refl _) (.cells #[.slice none 0 0, .slice none 0 0, .int .i64 0, .int .i64 0, .int .i64 0] 29)) (Nat.le_refl _))
    have N0 := TW.hide (blk_keep N0.out BY3.out)
    have HPk := TW.hide (HPk.out.below BY3.out)
    have SA := TW.hide (SA.out.below BY3.out)
    have HB := BX3
    go_wp2_with (refine wpList_store_row (by rfl) 29 _ _ (by rfl) w3.heap.size #[.slice pa N pc, .slice ra M rc, .int .i64 x1, .int .i64 x2, .int .i64 x3] (by rfl) (by rfl) 29 _ NN3.out (by kernel_rfl) (by rfl) (by simp [Value.oneCell']) ?_; generalize World.setRow _ _ _ = X3 at *; obtain ⟨c0, c1⟩ := cells2 N0.out)
    generalize w3.heap.size = b3 at *
    refine (H5.out _).mono ?_
    rintro e5 w5 ⟨rfl, hb⟩
    have hsz : w.heap.size ≤ X3.heap.size := HB.out.size
    have N0 := TW.hide (blk_keep N0.out hb)
    have M3 := TW.hide (blk_keep M3.out hb)
    have SA := TW.hide (SA.out.below hb)
    have HPk := TW.hide (HPk.out.below hb)
    have HB := TW.hide (HB.out.trans (hb.mono hsz))
    clear hb hsz c0 c1
    obtain ⟨c0, c1⟩ := cells2 N0.out
    obtain ⟨y0, y1, y2, y3, y4⟩ := cellsY5 M3.out
    have HC9 := TW.hide (HV.out pa pc ra rc w5 SA.out)
    go_wp2_with fail
    refine HC9.out.mono ?_
    rintro e6 w6 ⟨rfl, hb⟩
    have hsz : w.heap.size ≤ w5.heap.size := HB.out.size
    have N0 := TW.hide (blk_keep N0.out hb)
    have M3 := TW.hide (blk_keep M3.out hb)
    have SA := TW.hide (SA.out.below hb)
    have HPk := TW.hide (HPk.out.below hb)
    have HB := TW.hide (HB.out.trans (hb.mono hsz))
    clear hb hsz c0 c1 y0 y1 y2 y3 y4 HC9
    obtain ⟨c0, c1⟩ := cells2 N0.out
    obtain ⟨y0, y1, y2, y3, y4⟩ := cellsY5 M3.out
    have HC10 := TW.hide (HP.out pa pc ra rc pka pkc w6 SA.out HPk.out.nr)
    go_wp2_with fail
    refine HC10.out.mono ?_
    rintro e7 w7 ⟨⟨ea, ec, ca, cl, cc, m, rfl, hm⟩, hb⟩
    have hsz : w.heap.size ≤ w6.heap.size := HB.out.size
    have N0 := TW.hide (blk_keep N0.out hb)
    have HB := TW.hide (HB.out.trans (hb.mono hsz))
    clear hb hsz c0 c1 y0 y1 y2 y3 y4 HC10 SA M3
    obtain ⟨c0, c1⟩ := cells2 N0.out
    have NN7 := TW.hide (heap_alloc_new w7 (.cells #[.int .i64 0, .int .i64 0, .slice none 0 0, .int .i64 0, .slice none 0 0] 38))
    have hlt7 : w.heap.size < w7.heap.size := blk_lt N0.out
    have M7 := TW.hide (setRow_heap _ _ _ #[.int .i64 1, .int .i64 0, .slice ea m ec, .int .i64 (a + 3), .slice ca cl cc] _ _ NN7.out)
    have BX7 := TW.hide (below_setRow (g := w7.heap.size) (cs := #[.int .i64 1, .int .i64 0, .slice ea m ec, .int .i64 (a + 3), .slice ca cl cc]) (HB.out.alloc (Nat.le_of_lt hlt7) (.cells #[.int .i64 0, .int .i64 0, .slice none 0 0, .int .i64 0, .slice none 0 0] 38)) (Nat.le_of_lt hlt7))
    have BY7 := TW.hide (below_setRow (g := w7.heap.size) (cs := #[.int .i64 1, .int .i64 0, .slice ea m ec, .int .i64 (a + 3), .slice ca cl cc]) ((Below.refl w7.heap.size w7).alloc (Nat.le_refl _) (.cells #[.int .i64 0, .int .i64 0, .slice none 0 0, .int .i64 0, .slice none 0 0] 38)) (Nat.le_refl _))
    have N0 := TW.hide (blk_keep N0.out BY7.out)
    have HB := BX7
    have hmd : (m : Int) = d := hm
    have hmd2 : ((m : Int) == d) = true := by simp [hmd]
    clear hm hmd
    go_wp2_with (refine wpList_store_row (by rfl) 38 _ _ (by rfl) w7.heap.size #[.int .i64 1, .int .i64 0, .slice ea m ec, .int .i64 (a + 3), .slice ca cl cc] (by rfl) (by rfl) 38 _ NN7.out (by kernel_rfl) (by rfl) (by simp [Value.oneCell']) ?_; generalize World.setRow _ _ _ = X7 at *; obtain ⟨c0, c1⟩ := cells2 N0.out; obtain ⟨y0, y1, y2, y3, y4⟩ := cellsY5 M7.out)
    go_ret
    exact ⟨rfl, HB.out⟩
  · have hv9 : (vp a q != 0) = true := by simp [hv]
    generalize vp a q = v at *
    go_enter Try.func3, Try.ntmps3
    go_wp2_with fail
    refine (HA.out _).mono ?_
    rintro e1 w1 ⟨rfl, hb⟩
    have hsz1 : w.heap.size ≤ (w.alloc (.cells #[.int .i64 a, .int .i64 q] 23)).heap.size := HB.out.size
    have N0 := TW.hide (blk_keep N0.out hb)
    have HB := TW.hide (HB.out.trans (hb.mono hsz1))
    clear c0 c1
    obtain ⟨c0, c1⟩ := cells2 N0.out
    clear hb hsz1
    go_wp2_with fail
    refine (H8.out _).mono ?_
    rintro e2 w2 ⟨rfl, hb⟩
    have hsz2 : w.heap.size ≤ w1.heap.size := HB.out.size
    have HB := TW.hide (HB.out.trans (hb.mono hsz2))
    clear hb hsz2
    go_wp2
    go_ret
    exact ⟨rfl, HB.out⟩
theorem quietF (j a q : Int) (pka : Option Addr) (pkc : Nat) (picks : List Int) (w : World) (hj : (Lit.int .u8 j).wf = true) (ha : i64 a) (hq : i64 q) (hp : PkI w pka pkc picks) : Calls Try.prog 3 #[.int .u8 j, .agg #[.int .i64 a, .int .i64 q], .slice pka picks.length pkc] w fun e w' => e = .returned (.bool true) ∧ Below w.heap.size w w' := by
  have hj2 : 0 ≤ j ∧ j ≤ 255 := by
    have h1 : IntKind.u8.min = 0 := rfl
    have h2 : IntKind.u8.max = 255 := rfl
    simp [Lit.wf, h1, h2] at hj
    omega
  exact quietW j a q pka pkc picks w hj2.1 hj2.2 hp
end LW
end Go.Proofs.Ytghpfhoajcgghaa
