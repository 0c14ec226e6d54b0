/-
  What find gives, in one word; what Size of the program gives.
-/
import Derived.Test.YtcpegipojkbcoaaPDig
namespace Go.Proofs.Ytcpegipojkbcoaa
open Go.RowKit
set_option linter.unusedVariables false
set_option linter.unusedSimpArgs false
namespace LW
open Words
theorem findE_ (T : Tr) (hT : 0 ≤ T.lf ∧ T.lf < 4294967296) (n : Nat) (hn : n < 18446744073709551616) (lf : Nat) (h : waE T n lf ≠ 0) (w : World) : Calls Try.prog 14 #[.agg (trC T), .int .u64 n, .int .u64 lf] w fun e w' => e = .returned (.tuple #[.agg #[.int .i64 0, .int .i64 0, .int .i64 0, .int .i64 0, .int .u32 0, .int .i64 0, .slice none 0 0, .slice none 0 0, .slice none 0 0, .int .u64 0, .int .i64 0, .int .u64 0, .int .u64 0, .int .u64 0, .bool false, .bool false, .slice none 0 0], .int .i64 (waE T n lf)]) ∧ Below w.heap.size w w' := by
  refine pfindE T n lf (waE T n lf) h (fun W => ?_) w
  have := spot_ T hT n hn 0 lf W
  rwa [spF_no hT hn h] at this
theorem findOk_ (T : Tr) (hT : 0 ≤ T.lf ∧ T.lf < 4294967296) (n : Nat) (hn : n < 18446744073709551616) (lf : Nat) (h : waE T n lf = 0) (w : World) : Calls Try.prog 14 #[.agg (trC T), .int .u64 n, .int .u64 lf] w fun e w' => ∃ (s0 s1 s2 s3 : Int) (s4 s5 : Bool) (g cap : Nat), e = .returned (.tuple #[.agg #[.int .i64 T.k, .int .i64 T.d, .int .i64 T.f, .int .i64 T.dp, .int .u32 T.lf, .int .i64 T.inn, .slice T.ka T.kl T.kc, .slice T.sa T.sl T.sc, .slice T.pa T.pl T.pc, .int .u64 n, .int .i64 s0, .int .u64 s1, .int .u64 s2, .int .u64 s3, .bool s4, .bool s5, .slice (some ⟨g, 0, none⟩) ((roL T n).length - 1) cap], .int .i64 0]) ∧ s1 = (lf : Int) ∧ Fk w' g ((roL T n).length - 1) (aw T (roL T n) lf) (wF T (roL T n) lf) (wT T n (roL T n) lf) ∧ Below w.heap.size w w' := by
  rcases waE_cases T n lf with ⟨_, hE, hl⟩ | ⟨h0, _⟩
  · have hR := rwsT hT hn hE
    refine (pfindOk T hT n hn (roL T n) lf (roL T n).length rfl hR.most hR.two (fun i hi W => ?_) (fun i hi W => ?_) w).mono ?_
    · have := spot_ T hT n hn (i : Int) (aw T (roL T n) lf i) W
      rwa [spF_yes hT hn hE hl i hi] at this
    · have := parent_ T hT n hn (i : Int) (aw T (roL T n) lf i) (aw_small hT hn hE hl i (by omega)) W
      rwa [paF_yes hT hn hE hl i hi] at this
    · rintro e w' ⟨v, fr, to, la, rfl, ho, hb⟩
      obtain ⟨g, cap, rfl, _, _, hf⟩ := fork_open ho (by have := hR.two; omega)
      exact ⟨0, lf, fr, to, la, false, g, cap, rfl, rfl, hf, hb⟩
  · exact absurd h h0
theorem step_nums {T : Tr} {n lf : Nat} (hT : 0 ≤ T.lf ∧ T.lf < 4294967296) (hn : n < 18446744073709551616) (h : waE T n lf = 0) (i : Nat) (hi : i < (roL T n).length - 1) : wF T (roL T n) lf (i + 1) ≤ aw T (roL T n) lf i ∧ aw T (roL T n) lf i < wT T n (roL T n) lf (i + 1) ∧ wT T n (roL T n) lf (i + 1) < 18446744073709551616 := by
  rcases waE_cases T n lf with ⟨_, hE, hl⟩ | ⟨h0, _⟩
  · have hR := rwsT hT hn hE
    have h5 := aw_in (n := n) (lvE_ok hE) hR hl i (by omega)
    have h6 := wT_lt hn (lvE_ok hE) hT.1 hR hl (i + 1) (by omega)
    unfold wF wT at *
    omega
  · exact absurd h h0
set_option maxRecDepth 100000 in
set_option maxHeartbeats 2000000 in
theorem psizeE (T : Tr) (n lf : Nat) (E : Int) (hE : E ≠ 0) (H : ∀ W, Calls Try.prog 14 #[.agg (trC T), .int .u64 n, .int .u64 lf] W fun e w' => e = .returned (.tuple #[.agg #[.int .i64 0, .int .i64 0, .int .i64 0, .int .i64 0, .int .u32 0, .int .i64 0, .slice none 0 0, .slice none 0 0, .slice none 0 0, .int .u64 0, .int .i64 0, .int .u64 0, .int .u64 0, .int .u64 0, .bool false, .bool false, .slice none 0 0], .int .i64 E]) ∧ Below W.heap.size W w') (w : World) : Calls Try.prog 5 #[.agg (trC T), .int .u64 n, .int .u64 lf] w fun e w' => e = .returned (.tuple #[.int .u64 0, .int .i64 E]) ∧ Below w.heap.size w w' := by
  replace H := TW.hide H
  unfold trC at *
  have n0 := heap_alloc_new w (.cells #[.int .i64 T.k, .int .i64 T.d, .int .i64 T.f, .int .i64 T.dp, .int .u32 T.lf, .int .i64 T.inn, .slice T.ka T.kl T.kc, .slice T.sa T.sl T.sc, .slice T.pa T.pl T.pc] 26)
  have hb0 := (Below.refl w.heap.size w).alloc (Nat.le_refl _) (.cells #[.int .i64 T.k, .int .i64 T.d, .int .i64 T.f, .int .i64 T.dp, .int .u32 T.lf, .int .i64 T.inn, .slice T.ka T.kl T.kc, .slice T.sa T.sl T.sc, .slice T.pa T.pl T.pc] 26)
  have HB0 := TW.hide hb0
  have HN0 := TW.hide n0
  clear n0 hb0
  go_enter Try.func5, Try.ntmps5
  refine wp_seq_k fun K hK => ?_
  have HK := TW.hide hK
  clear hK
  go_wp2_with fail
  refine HK.out _ _ ?_
  clear HK K
  generalize w.alloc _ = X at *
  obtain ⟨c0, c1, c2, c3, c4, c5, c6, c7, c8⟩ := cells9 HN0.out
  refine wp_seq_k fun K hK => ?_
  have HK := TW.hide hK
  clear hK
  go_wp2_with fail
  refine (H.out _).mono ?_
  rintro e1 w1 ⟨rfl, hb⟩
  clear c0 c1 c2 c3 c4 c5 c6 c7 c8 H
  have hA : Below w1.heap.size w1 (((w1).alloc (.cells #[.int .i64 0, .int .i64 0, .int .i64 0, .int .i64 0, .int .u32 0, .int .i64 0, .slice none 0 0, .slice none 0 0, .slice none 0 0, .int .u64 0, .int .i64 0, .int .u64 0, .int .u64 0, .int .u64 0, .bool false, .bool false, .slice none 0 0] 53)).setRow w1.heap.size #[.int .i64 0, .int .i64 0, .int .i64 0, .int .i64 0, .int .u32 0, .int .i64 0, .slice none 0 0, .slice none 0 0, .slice none 0 0, .int .u64 0, .int .i64 0, .int .u64 0, .int .u64 0, .int .u64 0, .bool false, .bool false, .slice none 0 0]) := below_setRow ((Below.refl _ _).alloc (Nat.le_refl _) _) (Nat.le_refl _)
  have NW : Hid ((((w1).alloc (.cells #[.int .i64 0, .int .i64 0, .int .i64 0, .int .i64 0, .int .u32 0, .int .i64 0, .slice none 0 0, .slice none 0 0, .slice none 0 0, .int .u64 0, .int .i64 0, .int .u64 0, .int .u64 0, .int .u64 0, .bool false, .bool false, .slice none 0 0] 53)).setRow w1.heap.size #[.int .i64 0, .int .i64 0, .int .i64 0, .int .i64 0, .int .u32 0, .int .i64 0, .slice none 0 0, .slice none 0 0, .slice none 0 0, .int .u64 0, .int .i64 0, .int .u64 0, .int .u64 0, .int .u64 0, .bool false, .bool false, .slice none 0 0]).heap[w1.heap.size]? = some (.cells #[.int .i64 0, .int .i64 0, .int .i64 0, .int .i64 0, .int .u32 0, .int .i64 0, .slice none 0 0, .slice none 0 0, .slice none 0 0, .int .u64 0, .int .i64 0, .int .u64 0, .int .u64 0, .int .u64 0, .bool false, .bool false, .slice none 0 0] 53 (0, 0))) := setRow_heap _ _ _ _ _ _ (heap_alloc_new w1 _)
  have NB : Hid (Below w.heap.size w (((w1).alloc (.cells #[.int .i64 0, .int .i64 0, .int .i64 0, .int .i64 0, .int .u32 0, .int .i64 0, .slice none 0 0, .slice none 0 0, .slice none 0 0, .int .u64 0, .int .i64 0, .int .u64 0, .int .u64 0, .int .u64 0, .bool false, .bool false, .slice none 0 0] 53)).setRow w1.heap.size #[.int .i64 0, .int .i64 0, .int .i64 0, .int .i64 0, .int .u32 0, .int .i64 0, .slice none 0 0, .slice none 0 0, .slice none 0 0, .int .u64 0, .int .i64 0, .int .u64 0, .int .u64 0, .int .u64 0, .bool false, .bool false, .slice none 0 0])) := (HB0.out.trans (hb.mono HB0.out.size)).trans (hA.mono (HB0.out.trans (hb.mono HB0.out.size)).size)
  clear HN0 HB0 hb hA NW
  go_wp2_with (refine wpList_store_row (by rfl) 53 _ _ (by rfl) w1.heap.size #[.int .i64 0, .int .i64 0, .int .i64 0, .int .i64 0, .int .u32 0, .int .i64 0, .slice none 0 0, .slice none 0 0, .slice none 0 0, .int .u64 0, .int .i64 0, .int .u64 0, .int .u64 0, .int .u64 0, .bool false, .bool false, .slice none 0 0] (by rfl) (by rfl) 53 _ (heap_alloc_new w1 _) (by kernel_rfl) (by rfl) (by simp [Value.oneCell']) ?_)
  refine HK.out _ _ ?_
  clear HK K
  generalize World.setRow _ _ _ = V at *
  have hE' : (E != 0) = true := by simp [hE]
  go_wp2
  go_ret2
  exact ⟨rfl, NB.out⟩
set_option maxRecDepth 100000 in
set_option maxHeartbeats 2000000 in
theorem psizeOk (T : Tr) (n lf k : Nat) (AW WF WT : Nat → Nat) (z : Nat) (H : ∀ W, Calls Try.prog 14 #[.agg (trC T), .int .u64 n, .int .u64 lf] W fun e w' => ∃ (s0 s1 s2 s3 : Int) (s4 s5 : Bool) (g cap : Nat), e = .returned (.tuple #[.agg #[.int .i64 T.k, .int .i64 T.d, .int .i64 T.f, .int .i64 T.dp, .int .u32 T.lf, .int .i64 T.inn, .slice T.ka T.kl T.kc, .slice T.sa T.sl T.sc, .slice T.pa T.pl T.pc, .int .u64 n, .int .i64 s0, .int .u64 s1, .int .u64 s2, .int .u64 s3, .bool s4, .bool s5, .slice (some ⟨g, 0, none⟩) k cap], .int .i64 0]) ∧ s1 = (lf : Int) ∧ Fk w' g k AW WF WT ∧ Below W.heap.size W w') (HD : ∀ (s0 s1 s2 s3 : Int) (s4 s5 : Bool) (g cap : Nat) W, Fk W g k AW WF WT → Calls Try.prog 15 #[.agg #[.int .i64 T.k, .int .i64 T.d, .int .i64 T.f, .int .i64 T.dp, .int .u32 T.lf, .int .i64 T.inn, .slice T.ka T.kl T.kc, .slice T.sa T.sl T.sc, .slice T.pa T.pl T.pc, .int .u64 n, .int .i64 s0, .int .u64 s1, .int .u64 s2, .int .u64 s3, .bool s4, .bool s5, .slice (some ⟨g, 0, none⟩) k cap]] W fun e w' => e = .returned (.int .u64 z) ∧ Below W.heap.size W w') (w : World) : Calls Try.prog 5 #[.agg (trC T), .int .u64 n, .int .u64 lf] w fun e w' => e = .returned (.tuple #[.int .u64 z, .int .i64 0]) ∧ Below w.heap.size w w' := by
  replace H := TW.hide H
  replace HD := TW.hide HD
  unfold trC at *
  have n0 := heap_alloc_new w (.cells #[.int .i64 T.k, .int .i64 T.d, .int .i64 T.f, .int .i64 T.dp, .int .u32 T.lf, .int .i64 T.inn, .slice T.ka T.kl T.kc, .slice T.sa T.sl T.sc, .slice T.pa T.pl T.pc] 26)
  have hb0 := (Below.refl w.heap.size w).alloc (Nat.le_refl _) (.cells #[.int .i64 T.k, .int .i64 T.d, .int .i64 T.f, .int .i64 T.dp, .int .u32 T.lf, .int .i64 T.inn, .slice T.ka T.kl T.kc, .slice T.sa T.sl T.sc, .slice T.pa T.pl T.pc] 26)
  have HB0 := TW.hide hb0
  have HN0 := TW.hide n0
  clear n0 hb0
  go_enter Try.func5, Try.ntmps5
  refine wp_seq_k fun K hK => ?_
  have HK := TW.hide hK
  clear hK
  go_wp2_with fail
  refine HK.out _ _ ?_
  clear HK K
  generalize w.alloc _ = X at *
  obtain ⟨c0, c1, c2, c3, c4, c5, c6, c7, c8⟩ := cells9 HN0.out
  refine wp_seq_k fun K hK => ?_
  have HK := TW.hide hK
  clear hK
  go_wp2_with fail
  refine (H.out _).mono ?_
  rintro e1 w1 ⟨s0, s1, s2, s3, s4, s5, g, cap, rfl, hs1, hf, hb⟩
  clear hs1
  clear c0 c1 c2 c3 c4 c5 c6 c7 c8 H
  have hA : Below w1.heap.size w1 (((w1).alloc (.cells #[.int .i64 0, .int .i64 0, .int .i64 0, .int .i64 0, .int .u32 0, .int .i64 0, .slice none 0 0, .slice none 0 0, .slice none 0 0, .int .u64 0, .int .i64 0, .int .u64 0, .int .u64 0, .int .u64 0, .bool false, .bool false, .slice none 0 0] 53)).setRow w1.heap.size #[.int .i64 T.k, .int .i64 T.d, .int .i64 T.f, .int .i64 T.dp, .int .u32 T.lf, .int .i64 T.inn, .slice T.ka T.kl T.kc, .slice T.sa T.sl T.sc, .slice T.pa T.pl T.pc, .int .u64 n, .int .i64 s0, .int .u64 s1, .int .u64 s2, .int .u64 s3, .bool s4, .bool s5, .slice (some ⟨g, 0, none⟩) k cap]) := below_setRow ((Below.refl _ _).alloc (Nat.le_refl _) _) (Nat.le_refl _)
  have NW : Hid ((((w1).alloc (.cells #[.int .i64 0, .int .i64 0, .int .i64 0, .int .i64 0, .int .u32 0, .int .i64 0, .slice none 0 0, .slice none 0 0, .slice none 0 0, .int .u64 0, .int .i64 0, .int .u64 0, .int .u64 0, .int .u64 0, .bool false, .bool false, .slice none 0 0] 53)).setRow w1.heap.size #[.int .i64 T.k, .int .i64 T.d, .int .i64 T.f, .int .i64 T.dp, .int .u32 T.lf, .int .i64 T.inn, .slice T.ka T.kl T.kc, .slice T.sa T.sl T.sc, .slice T.pa T.pl T.pc, .int .u64 n, .int .i64 s0, .int .u64 s1, .int .u64 s2, .int .u64 s3, .bool s4, .bool s5, .slice (some ⟨g, 0, none⟩) k cap]).heap[w1.heap.size]? = some (.cells #[.int .i64 T.k, .int .i64 T.d, .int .i64 T.f, .int .i64 T.dp, .int .u32 T.lf, .int .i64 T.inn, .slice T.ka T.kl T.kc, .slice T.sa T.sl T.sc, .slice T.pa T.pl T.pc, .int .u64 n, .int .i64 s0, .int .u64 s1, .int .u64 s2, .int .u64 s3, .bool s4, .bool s5, .slice (some ⟨g, 0, none⟩) k cap] 53 (0, 0))) := setRow_heap _ _ _ _ _ _ (heap_alloc_new w1 _)
  have NB : Hid (Below w.heap.size w (((w1).alloc (.cells #[.int .i64 0, .int .i64 0, .int .i64 0, .int .i64 0, .int .u32 0, .int .i64 0, .slice none 0 0, .slice none 0 0, .slice none 0 0, .int .u64 0, .int .i64 0, .int .u64 0, .int .u64 0, .int .u64 0, .bool false, .bool false, .slice none 0 0] 53)).setRow w1.heap.size #[.int .i64 T.k, .int .i64 T.d, .int .i64 T.f, .int .i64 T.dp, .int .u32 T.lf, .int .i64 T.inn, .slice T.ka T.kl T.kc, .slice T.sa T.sl T.sc, .slice T.pa T.pl T.pc, .int .u64 n, .int .i64 s0, .int .u64 s1, .int .u64 s2, .int .u64 s3, .bool s4, .bool s5, .slice (some ⟨g, 0, none⟩) k cap])) := (HB0.out.trans (hb.mono HB0.out.size)).trans (hA.mono (HB0.out.trans (hb.mono HB0.out.size)).size)
  have NF := TW.hide (hf.below hA)
  clear HN0 HB0 hb hA hf
  go_wp2_with (refine wpList_store_row (by rfl) 53 _ _ (by rfl) w1.heap.size #[.int .i64 T.k, .int .i64 T.d, .int .i64 T.f, .int .i64 T.dp, .int .u32 T.lf, .int .i64 T.inn, .slice T.ka T.kl T.kc, .slice T.sa T.sl T.sc, .slice T.pa T.pl T.pc, .int .u64 n, .int .i64 s0, .int .u64 s1, .int .u64 s2, .int .u64 s3, .bool s4, .bool s5, .slice (some ⟨g, 0, none⟩) k cap] (by rfl) (by rfl) 53 _ (heap_alloc_new w1 _) (by kernel_rfl) (by rfl) (by simp [Value.oneCell']) ?_)
  refine HK.out _ _ ?_
  clear HK K
  generalize World.setRow _ _ _ = V at *
  generalize w1.heap.size = gw at *
  go_wp2_with (refine wpList_load_row (by rfl) 53 _ (by rfl) gw (by rfl) 53 #[.int .i64 T.k, .int .i64 T.d, .int .i64 T.f, .int .i64 T.dp, .int .u32 T.lf, .int .i64 T.inn, .slice T.ka T.kl T.kc, .slice T.sa T.sl T.sc, .slice T.pa T.pl T.pc, .int .u64 n, .int .i64 s0, .int .u64 s1, .int .u64 s2, .int .u64 s3, .bool s4, .bool s5, .slice (some ⟨g, 0, none⟩) k cap] (0, 0) _ NW.out Try.underlying53 rfl (by kernel_rfl) ?_)
  refine (HD.out s0 s1 s2 s3 s4 s5 g cap _ NF.out).mono ?_
  rintro e2 w2 ⟨rfl, hb⟩
  have NB2 : Hid (Below w.heap.size w w2) := NB.out.trans (hb.mono NB.out.size)
  clear hb
  go_wp2
  go_ret2
  exact ⟨rfl, NB2.out⟩
theorem psize : PSize := by
  intro T hT n hn lf hl w
  by_cases h : waE T n lf = 0
  · have hz : szF T n lf = szN T n (roL T n) lf ((roL T n).length - 1) % 18446744073709551616 := by unfold szF; rw [if_pos h]
    rw [hz, h]
    have h255 : (roL T n).length ≤ 255 := by
      rcases waE_cases T n lf with ⟨_, hE, _⟩ | ⟨h0, _⟩
      · exact (rwsT hT hn hE).most
      · exact absurd h h0
    exact psizeOk T n lf _ _ _ _ _ (fun W => findOk_ T hT n hn lf h W) (fun s0 s1 s2 s3 s4 s5 g cap W hf => digests_ T n s0 s1 s2 s3 s4 s5 g _ cap _ _ _ (szN T n (roL T n) lf) W hf (by omega) (fun i hi => step_nums hT hn h i hi) rfl (fun i => rfl)) w
  · have hz : szF T n lf = 0 := by unfold szF; rw [if_neg h]
    rw [hz]
    exact psizeE T n lf _ h (fun W => findE_ T hT n hn lf h W) w
end LW
end Go.Proofs.Ytcpegipojkbcoaa
