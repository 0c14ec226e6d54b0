/-
  The laws on Valid, Play, Ready.
-/
import Derived.Test.YtheifjakpdeiaaaLw3
namespace Go.Proofs.Ytheifjakpdeiaaa
open Go.RowKit
set_option linter.unusedVariables false
set_option linter.unusedSimpArgs false
namespace LW
open Mc
set_option maxRecDepth 100000 in
set_option maxHeartbeats 4000000 in
theorem awake_ (hP : PPlay) (w : World) : Calls Try.prog 11 #[] w fun e w' => e = .returned (.bool true) ∧ Below w.heap.size w w' := by
  have HS := TW.hide (rsmall w)
  obtain ⟨p1, p2, p3, p4⟩ := smS_play
  go_enter Try.func11, Try.ntmps11
  refine wp_seq_k fun K hK => ?_
  have HK := TW.hide hK
  clear hK
  go_wp2
  refine HK.out _ _ ?_
  clear HK K
  refine wp_seq_k fun K hK => ?_
  have HK := TW.hide hK
  clear hK
  go_wp2_with fail
  refine HS.out.mono ?_
  rintro e1 w1 ⟨pa, pc, ra, rc, rfl, hS, hb⟩
  have HPl := TW.hide (hP smS pa pc ra rc none 0 [] w1 hS ⟨.inl rfl, fun j => by simpa using i64_0, Nat.le_refl _, fun _ => rfl, by simp⟩)
  have HB1 := TW.hide hb
  clear hS hb HS
  go_wp2_with fail
  refine HPl.out.mono ?_
  rintro e2 w2 ⟨cs, x, r, rfl, ⟨ea, ec, ca, cc, rfl, _, _⟩, hb2, hok, _⟩
  obtain ⟨rfl, rfl⟩ := hok smS_ok
  rw [p1, p2, p3, p4]
  have HB2 : Hid (Below w.heap.size w w2) := HB1.out.trans (hb2.mono HB1.out.size)
  clear hok hb2 HB1 HPl p1 p2 p3 p4
  generalize (Mc.play smS []).2.2.cells.length = cn
  have HB3 : Hid (Below w.heap.size w (w2.alloc (.cells #[.int .i64 1, .int .i64 0, .slice ea 7 ec, .int .i64 2, .slice ca cn cc] 32))) := HB2.out.alloc HB2.out.size _
  have NN : Hid ((w2.alloc (.cells #[.int .i64 1, .int .i64 0, .slice ea 7 ec, .int .i64 2, .slice ca cn cc] 32)).heap[w2.heap.size]? = some (.cells #[.int .i64 1, .int .i64 0, .slice ea 7 ec, .int .i64 2, .slice ca cn cc] 32 (0, 0))) := heap_alloc_new w2 _
  go_wp2
  refine HK.out _ _ ?_
  clear HK K
  generalize World.alloc _ _ = X3 at *
  obtain ⟨t0, t1, t2, t3, t4⟩ := cellsY5 NN.out
  go_wp2
  go_ret
  exact ⟨rfl, HB3.out⟩
set_option maxRecDepth 100000 in
set_option maxHeartbeats 4000000 in
theorem validW (hV : PValid) (hP : PPlay) (s : Syst) (pa : Option Addr) (pc : Nat) (ra : Option Addr) (rc : Nat) (w : World) (hs : SyI w s pa ra) :
    Calls Try.prog 3 #[.agg (syC s pa pc ra rc)] w fun e w' => e = .returned (.bool true) ∧ Below w.heap.size w w' := by
  have HV : Hid (∀ W, SyI W s pa ra → Calls Try.prog 9 #[.agg (syC s pa pc ra rc)] W fun e w' => ∃ x : Int, e = .returned (.int .i64 x) ∧ (Ok s → x = 0) ∧ (¬ Ok s → x = 130) ∧ Below W.heap.size W w') := fun W hW => hV s pa pc ra rc W hW
  unfold syC at HV
  have HVd : Hid (∀ W, SyI W s pa ra → Calls Try.prog 10 #[.agg #[.slice pa s.progs.length pc, .slice ra s.rooms.length rc, .int .i64 s.groups, .int .i64 s.locks, .int .i64 s.cells]] W (RiP (Ok s) W)) := fun W hW => rvalid13 s pa pc ra rc _ _ W hW.sm rfl rfl hW.pn hW.rn hW.pl
  unfold syC
  have hA : Below w.heap.size w (w.alloc (.cells #[.slice pa s.progs.length pc, .slice ra s.rooms.length rc, .int .i64 s.groups, .int .i64 s.locks, .int .i64 s.cells] 25)) := (Below.refl _ _).alloc (Nat.le_refl _) _
  have N1 : Hid ((w.alloc (.cells #[.slice pa s.progs.length pc, .slice ra s.rooms.length rc, .int .i64 s.groups, .int .i64 s.locks, .int .i64 s.cells] 25)).heap[w.heap.size]? = some (.cells #[.slice pa s.progs.length pc, .slice ra s.rooms.length rc, .int .i64 s.groups, .int .i64 s.locks, .int .i64 s.cells] 25 (0, 0))) := heap_alloc_new w _
  have HBV := TW.hide hA
  clear hA
  go_enter Try.func3, Try.ntmps3
  refine wp_seq_k fun K hK => ?_
  have HK := TW.hide hK
  clear hK
  go_wp2
  refine HK.out _ _ ?_
  clear HK K
  generalize World.alloc _ _ = V at *
  have HSy := TW.hide (hs.below HBV.out)
  obtain ⟨s0, s1, s2, s3, s4⟩ := cellsY5 N1.out
  go_wp2_with fail
  refine (HV.out _ HSy.out).mono ?_
  rintro e1 w1 ⟨x, rfl, hx1, hx2, hb⟩
  have HSy1 := TW.hide (HSy.out.below hb)
  have N2 := TW.hide (blk_keep N1.out hb)
  have HB1 : Hid (Below w.heap.size w w1) := HBV.out.trans (hb.mono HBV.out.size)
  clear hb HSy N1 HBV s0 s1 s2 s3 s4
  obtain ⟨s0, s1, s2, s3, s4⟩ := cellsY5 N2.out
  go_wp2_with fail
  refine (HVd.out _ HSy1.out).mono ?_
  rintro e2 w2 ⟨b, rfl, hb1, hb⟩
  have HB2 : Hid (Below w.heap.size w w2) := HB1.out.trans (hb.mono HB1.out.size)
  clear hb HB1 HSy1 N2 s0 s1 s2 s3 s4
  cases b with
  | true =>
    obtain rfl := hx1 (hb1.1 rfl)
    clear hx1 hx2 hb1
    go_wp2_with fail
    refine (awake_ hP _).mono ?_
    rintro e3 w3 ⟨rfl, hb⟩
    have HB3 : Hid (Below w.heap.size w w3) := HB2.out.trans (hb.mono HB2.out.size)
    clear hb HB2
    go_wp2
    go_ret
    exact ⟨rfl, HB3.out⟩
  | false =>
    obtain rfl := hx2 (fun h => by have := hb1.2 h; cases this)
    clear hx1 hx2 hb1
    go_wp2
    go_ret
    exact ⟨rfl, HB2.out⟩
theorem pk_own {w : World} {B : Nat} {v : Value} {l : List Int} (h : w.ownsRow B 3 1 v l.length (l.map (Value.int .i64))) (hi : ∀ j, i64 (l.getD j 0)) (hl : l.length ≤ 17592186043904) : ∃ a c, v = .slice a l.length c ∧ PkI w a c l := by
  obtain ⟨a, c, e, h1⟩ := nr_own h
  refine ⟨a, c, e, h1, hi, ?_, ?_, hl⟩
  · rcases h.2 with ⟨e2, h0⟩ | ⟨g, cap, cur, e2, _, _, hn, _⟩
    · omega
    · rw [e] at e2
      injection e2 with _ _ e3
      omega
  · intro ha
    rcases h.2 with ⟨e2, h0⟩ | ⟨g, cap, cur, e2, _⟩
    · rw [e] at e2
      injection e2
    · rw [e, ha] at e2
      injection e2 with e3
      cases e3
end LW
end Go.Proofs.Ytheifjakpdeiaaa
