/-
  The law on places.
-/
import Derived.Test.YtahmjdnnkifmnaaRParen
namespace Go.Proofs.Ytahmjdnnkifmnaa
open Go.RowKit
set_option linter.unusedVariables false
set_option linter.unusedSimpArgs false
namespace LW
open Words
theorem spF_ex (T : Tr) (n : Nat) (r : Int) (at_ : Nat) : ∃ (a0 : Int) (a1 a2 a3 : Nat) (a4 a5 : Bool) (e : Int), spF T n r at_ = .tuple #[.agg (spC a0 a1 a2 a3 a4 a5), .int .i64 e] := by
  unfold spF
  split
  · split
    · exact ⟨_, _, _, _, _, _, _, rfl⟩
    · exact ⟨_, _, _, _, _, _, _, rfl⟩
  · exact ⟨_, _, _, _, _, _, _, rfl⟩
theorem paF_ex (T : Tr) (n : Nat) (r : Int) (at_ : Nat) : ∃ (p : Nat) (e : Int), paF T n r at_ = .tuple #[.int .u64 p, .int .i64 e] := by
  unfold paF
  split
  · split
    · split
      · exact ⟨0, _, rfl⟩
      · split
        · exact ⟨0, _, rfl⟩
        · exact ⟨_, _, rfl⟩
    · exact ⟨0, _, rfl⟩
  · exact ⟨0, _, rfl⟩
set_option maxRecDepth 100000 in
set_option maxHeartbeats 2000000 in
theorem spotsW (T : Tr) (s t : List Int) (n0 : Int) (r : Int) (q0 : Int) (w : World) (hT : 0 ≤ T.lf ∧ T.lf < 4294967296) (hx1 : T.sl = s.length) (hx2 : Lies w T.sa T.sc s) (hx3 : T.pl = t.length) (hx4 : Lies w T.pa T.pc t) (hr : (Lit.int .u64 n0).wf = true) (hr1 : (Lit.int .i64 r).wf = true) (hr2 : (Lit.int .u64 q0).wf = true) : Calls Try.prog 3 #[.agg (trC T), .int .u64 n0, .int .i64 r, .int .u64 q0] w fun e w' => e = .returned (.bool true) ∧ Below w.heap.size w w' := by
  clear hx1 hx2 hx3 hx4 hr1
  obtain ⟨n, rfl, hn⟩ := u64_nat hr
  obtain ⟨q, rfl, hq⟩ := u64_nat hr2
  clear hr hr2
  have h1 := fun W => spot_ T hT n hn r q W
  have h2 := fun W => rspot_ T hT n hn r q W
  have h3 := fun W => parent_ T hT n hn r q hq W
  have h4 := fun W => rparent_ T hT n hn r q hq W
  obtain ⟨a0, a1, a2, a3, a4, a5, E, hs⟩ := spF_ex T n r q
  obtain ⟨p, E2, hp⟩ := paF_ex T n r q
  rw [hs] at h1 h2
  rw [hp] at h3 h4
  have H1 := TW.hide h1
  have H2 := TW.hide h2
  have H3 := TW.hide h3
  have H4 := TW.hide h4
  have HA := TW.hide (fun W => awake W)
  clear h1 h2 h3 h4 hs hp
  unfold trC spC at *
  have n0 := heap_alloc_new w (.cells #[.int .i64 T.k, .int .i64 T.d, .int .i64 T.f, .int .i64 T.dp, .int .u32 T.lf, .int .i64 T.inn, .slice T.ka T.kl T.kc, .slice T.sa T.sl T.sc, .slice T.pa T.pl T.pc] 26)
  have hb0 := (Below.refl w.heap.size w).alloc (Nat.le_refl _) (.cells #[.int .i64 T.k, .int .i64 T.d, .int .i64 T.f, .int .i64 T.dp, .int .u32 T.lf, .int .i64 T.inn, .slice T.ka T.kl T.kc, .slice T.sa T.sl T.sc, .slice T.pa T.pl T.pc] 26)
  have HB0 := TW.hide hb0
  have HN0 := TW.hide n0
  clear n0 hb0
  go_enter Try.func3, Try.ntmps3
  refine wp_seq_k fun K hK => ?_
  have HK := TW.hide hK
  clear hK
  go_wp2_with fail
  refine HK.out _ _ ?_
  clear HK K
  generalize w.alloc _ = X at *
  obtain ⟨c0, c1, c2, c3, c4, c5, c6, c7, c8⟩ := cells9 HN0.out
  refine wp_seq_k fun K hK => ?_
  have HK := TW.hide hK
  clear hK
  go_wp2_with fail
  refine (H1.out _).mono ?_
  rintro e1 w1 ⟨rfl, hb⟩
  clear c0 c1 c2 c3 c4 c5 c6 c7 c8
  have HN1 := TW.hide (blk_alloc (o' := .cells #[.int .i64 a0, .int .u64 a1, .int .u64 a2, .int .u64 a3, .bool a4, .bool a5] 29) (blk_keep HN0.out hb))
  have HB1 : Hid (Below w.heap.size w (w1.alloc (.cells #[.int .i64 a0, .int .u64 a1, .int .u64 a2, .int .u64 a3, .bool a4, .bool a5] 29))) := (HB0.out.trans (hb.mono HB0.out.size)).alloc (by have := (HB0.out.trans (hb.mono HB0.out.size)).size; omega) _
  have G1 := TW.hide (heap_alloc_new w1 (.cells #[.int .i64 a0, .int .u64 a1, .int .u64 a2, .int .u64 a3, .bool a4, .bool a5] 29))
  clear HN0 HB0 hb
  go_wp2
  refine HK.out _ _ ?_
  clear HK K
  generalize w1.alloc _ = V1 at *
  generalize w1.heap.size = g1 at *
  obtain ⟨c0, c1, c2, c3, c4, c5, c6, c7, c8⟩ := cells9 HN1.out
  refine wp_seq_k fun K hK => ?_
  have HK := TW.hide hK
  clear hK
  go_wp2_with fail
  refine (H2.out _).mono ?_
  rintro e2 w2 ⟨rfl, hb⟩
  clear c0 c1 c2 c3 c4 c5 c6 c7 c8
  have HN2 := TW.hide (blk_alloc (o' := .cells #[.int .i64 a0, .int .u64 a1, .int .u64 a2, .int .u64 a3, .bool a4, .bool a5] 29) (blk_keep HN1.out hb))
  have G1 := TW.hide (blk_alloc (o' := .cells #[.int .i64 a0, .int .u64 a1, .int .u64 a2, .int .u64 a3, .bool a4, .bool a5] 29) (blk_keep G1.out hb))
  have HB2 : Hid (Below w.heap.size w (w2.alloc (.cells #[.int .i64 a0, .int .u64 a1, .int .u64 a2, .int .u64 a3, .bool a4, .bool a5] 29))) := (HB1.out.trans (hb.mono HB1.out.size)).alloc (by have := (HB1.out.trans (hb.mono HB1.out.size)).size; omega) _
  have G2 := TW.hide (heap_alloc_new w2 (.cells #[.int .i64 a0, .int .u64 a1, .int .u64 a2, .int .u64 a3, .bool a4, .bool a5] 29))
  clear HN1 HB1 hb
  go_wp2
  refine HK.out _ _ ?_
  clear HK K
  generalize w2.alloc _ = V2 at *
  generalize w2.heap.size = g2 at *
  obtain ⟨c0, c1, c2, c3, c4, c5, c6, c7, c8⟩ := cells9 HN2.out
  refine wp_seq_k fun K hK => ?_
  have HK := TW.hide hK
  clear hK
  go_wp2_with fail
  refine (H3.out _).mono ?_
  rintro e3 w3 ⟨rfl, hb⟩
  clear c0 c1 c2 c3 c4 c5 c6 c7 c8
  have HN3 := TW.hide (blk_keep HN2.out hb)
  have HB3 : Hid (Below w.heap.size w w3) := HB2.out.trans (hb.mono HB2.out.size)
  have G1 := TW.hide (blk_keep G1.out hb)
  have G2 := TW.hide (blk_keep G2.out hb)
  clear HN2 HB2 hb
  obtain ⟨c0, c1, c2, c3, c4, c5, c6, c7, c8⟩ := cells9 HN3.out
  go_wp2
  refine HK.out _ _ ?_
  clear HK K
  refine wp_seq_k fun K hK => ?_
  have HK := TW.hide hK
  clear hK
  go_wp2_with fail
  refine (H4.out _).mono ?_
  rintro e4 w4 ⟨rfl, hb⟩
  clear c0 c1 c2 c3 c4 c5 c6 c7 c8
  have HN4 := TW.hide (blk_keep HN3.out hb)
  have HB4 : Hid (Below w.heap.size w w4) := HB3.out.trans (hb.mono HB3.out.size)
  have G1 := TW.hide (blk_keep G1.out hb)
  have G2 := TW.hide (blk_keep G2.out hb)
  clear HN3 HB3 hb
  obtain ⟨c0, c1, c2, c3, c4, c5, c6, c7, c8⟩ := cells9 HN4.out
  go_wp2
  refine HK.out _ _ ?_
  clear HK K
  obtain ⟨⟨s0, s1, s2, s3, s4, s5⟩, _⟩ := cells6f G1.out
  obtain ⟨⟨t0, t1, t2, t3, t4, t5⟩, _⟩ := cells6f G2.out
  clear c0 c1 c2 c3 c4 c5 c6 c7 c8
  go_wp2_with fail
  refine (HA.out _).mono ?_
  rintro e5 w5 ⟨rfl, hb⟩
  have HB5 : Hid (Below w.heap.size w w5) := HB4.out.trans (hb.mono HB4.out.size)
  clear HB4 hb
  go_wp2
  go_ret
  exact ⟨rfl, HB5.out⟩
end LW
end Go.Proofs.Ytahmjdnnkifmnaa
