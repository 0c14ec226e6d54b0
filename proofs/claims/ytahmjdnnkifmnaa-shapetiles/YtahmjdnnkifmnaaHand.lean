/-
  What the law's hand and the document's Rest give.
-/
import Derived.Test.YtahmjdnnkifmnaaTileL
namespace Go.Proofs.Ytahmjdnnkifmnaa
open Go.RowKit
set_option linter.unusedVariables false
set_option linter.unusedSimpArgs false
namespace LW
open Words
set_option maxRecDepth 100000 in
set_option maxHeartbeats 2000000 in
theorem rest (a : Int) (ha : (Lit.int .i64 a).wf = true) (m : Nat) (hm : 0 < m) (hm2 : m ≤ 255) (w : World) : Calls Try.prog 16 #[.int .i64 a, .int .i64 (m : Int)] w fun e w' => (∃ i : Nat, i < m ∧ e = .returned (.int .i64 (i : Int))) ∧ w' = w := by
  have hb := Int.tmod_lt_of_pos a (show (0 : Int) < (m : Int) by omega)
  have hb2 : -(m : Int) < a.tmod (m : Int) := by
    rcases Int.le_total 0 a with h | h
    · have := Int.tmod_nonneg (m : Int) h
      omega
    · have e : a.tmod (m : Int) = -((-a).tmod (m : Int)) := by rw [Int.neg_tmod]; omega
      have := Int.tmod_lt_of_pos (-a) (show (0 : Int) < (m : Int) by omega)
      omega
  have hm0 : ¬ (m : Int) = 0 := by omega
  go_enter Try.func16, Try.ntmps16
  go_wp2
  · go_ret
    exact ⟨⟨(a.tmod (m : Int) + (m : Int)).toNat, by omega, TW.ret_int (by omega)⟩, rfl⟩
  · go_ret
    exact ⟨⟨(a.tmod (m : Int)).toNat, by omega, TW.ret_int (by omega)⟩, rfl⟩
set_option maxRecDepth 100000 in
set_option maxHeartbeats 2000000 in
theorem hand_ (T : Tr) (hT : 0 ≤ T.lf ∧ T.lf < 4294967296) (n : Nat) (hn : n < 18446744073709551616) (hE : lvE T n = 0) (i at_ : Nat) (hil : i < (roL T n).length) (h3 : at_ < (roL T n).getD i 0) (ha : at_ < 18446744073709551616) (fr tt : Nat) (la ro : Bool) (hro : rtB (roL T n) (i : Int) = ro) (w : World) : Calls Try.prog 17 #[.agg (trC T), .int .u64 n, .agg (spC (i : Int) at_ fr tt la ro)] w fun e w' => e = .returned (.bool true) ∧ Below w.heap.size w w' := by
  have hh : Has (roL T n) (i : Int) at_ := ⟨by omega, by omega, by rw [Int.toNat_natCast]; exact h3⟩
  have hRw := rwsT hT hn hE
  have h255 := hRw.most
  have hp0 := fun W => parent_ T hT n hn (i : Int) at_ ha W
  unfold paF at hp0
  simp only [if_pos hE, if_pos hh, hro, Int.toNat_natCast] at hp0
  have hw1 : IntKind.i64.wrap ((i : Int) + 1) = (i : Int) + 1 := by rw [IntKind.wrap_i64]; omega
  cases ro with
  | true =>
    simp only [if_true] at hp0
    have HP := TW.hide hp0
    clear hp0 hRw hh hro hE hil h3 ha h255
    unfold trC spC at *
    have n0 := heap_alloc_new w (.cells #[.int .i64 T.k, .int .i64 T.d, .int .i64 T.f, .int .i64 T.dp, .int .u32 T.lf, .int .i64 T.inn, .slice T.ka T.kl T.kc, .slice T.sa T.sl T.sc, .slice T.pa T.pl T.pc] 26)
    have hb0 := (Below.refl w.heap.size w).alloc (Nat.le_refl _) (.cells #[.int .i64 T.k, .int .i64 T.d, .int .i64 T.f, .int .i64 T.dp, .int .u32 T.lf, .int .i64 T.inn, .slice T.ka T.kl T.kc, .slice T.sa T.sl T.sc, .slice T.pa T.pl T.pc] 26)
    have n1 := heap_alloc_new (w.alloc (.cells #[.int .i64 T.k, .int .i64 T.d, .int .i64 T.f, .int .i64 T.dp, .int .u32 T.lf, .int .i64 T.inn, .slice T.ka T.kl T.kc, .slice T.sa T.sl T.sc, .slice T.pa T.pl T.pc] 26)) (.cells #[.int .i64 (i : Int), .int .u64 at_, .int .u64 fr, .int .u64 tt, .bool la, .bool true] 29)
    rw [show (w.alloc (.cells #[.int .i64 T.k, .int .i64 T.d, .int .i64 T.f, .int .i64 T.dp, .int .u32 T.lf, .int .i64 T.inn, .slice T.ka T.kl T.kc, .slice T.sa T.sl T.sc, .slice T.pa T.pl T.pc] 26)).heap.size = w.heap.size + 1 by simp] at n1
    have n0 := blk_alloc (o' := .cells #[.int .i64 (i : Int), .int .u64 at_, .int .u64 fr, .int .u64 tt, .bool la, .bool true] 29) n0
    have hb1 := hb0.alloc hb0.size (.cells #[.int .i64 (i : Int), .int .u64 at_, .int .u64 fr, .int .u64 tt, .bool la, .bool true] 29)
    have N0 := TW.hide n0
    have N1 := TW.hide n1
    have B0 := TW.hide hb1
    clear n0 n1 hb0 hb1
    go_enter Try.func17, Try.ntmps17
    refine wp_seq_k fun K hK => ?_
    have HK := TW.hide hK
    clear hK
    go_wp2_with fail
    refine HK.out _ _ ?_
    clear HK K
    generalize (w.alloc _).alloc _ = X at *
    obtain ⟨c0, c1, c2, c3, c4, c5, c6, c7, c8⟩ := cells9 N0.out
    obtain ⟨⟨s0, s1, s2, s3, s4, s5⟩, _⟩ := cells6f N1.out
    go_wp2_with fail
    refine (HP.out _).mono ?_
    rintro e1 w1 ⟨rfl, hb⟩
    clear c0 c1 c2 c3 c4 c5 c6 c7 c8 s0 s1 s2 s3 s4 s5
    obtain ⟨⟨s0, s1, s2, s3, s4, s5⟩, _⟩ := cells6f (blk_keep N1.out hb)
    have B1 : Hid (Below w.heap.size w w1) := B0.out.trans (hb.mono B0.out.size)
    clear hb
    go_wp2
    go_ret
    exact ⟨rfl, B1.out⟩
  | false =>
    have hl1 : i + 1 < (roL T n).length := by
      unfold rtB at hro
      rw [Int.toNat_natCast, decide_eq_false_iff_not] at hro
      omega
    obtain ⟨p, hpa, hpc, hph, hpf, hpt⟩ := par_facts (lvE_ok hE) hRw hl1 h3
    have hp1 : ∀ W, Calls Try.prog 8 #[.agg (trC T), .int .u64 n, .int .i64 (i : Int), .int .u64 at_] W fun e w' => e = .returned (.tuple #[.int .u64 (p : Nat), .int .i64 0]) ∧ Below W.heap.size W w' := by
      intro W
      have := hp0 W
      rcases hpc with ⟨k1, rfl⟩ | ⟨k1, rfl⟩
      · rw [if_neg (by simp), if_pos k1] at this
        exact this
      · rw [if_neg (by simp), if_neg k1] at this
        exact this
    have hs := fun W => spot_ T hT n hn ((i : Int) + 1) p W
    unfold spF at hs
    simp only [if_pos hE, if_pos hph] at hs
    have hpf' : ((frN T (roL T n) ((i : Int) + 1) p : Nat) : Int) ≤ (at_ : Int) := by omega
    have hpt' : (at_ : Int) < ((toN T n (roL T n) ((i : Int) + 1) p : Nat) : Int) := by omega
    have HP := TW.hide hp1
    have HS := TW.hide hs
    clear hp0 hp1 hs hRw hh hro hE hil h3 ha h255 hl1 hpa hpc hph hpf hpt
    generalize frN T (roL T n) ((i : Int) + 1) p = fr2 at *
    generalize toN T n (roL T n) ((i : Int) + 1) p = tt2 at *
    generalize laB (roL T n) ((i : Int) + 1) p = la2 at *
    generalize rtB (roL T n) ((i : Int) + 1) = ro2 at *
    unfold trC spC at *
    have n0 := heap_alloc_new w (.cells #[.int .i64 T.k, .int .i64 T.d, .int .i64 T.f, .int .i64 T.dp, .int .u32 T.lf, .int .i64 T.inn, .slice T.ka T.kl T.kc, .slice T.sa T.sl T.sc, .slice T.pa T.pl T.pc] 26)
    have hb0 := (Below.refl w.heap.size w).alloc (Nat.le_refl _) (.cells #[.int .i64 T.k, .int .i64 T.d, .int .i64 T.f, .int .i64 T.dp, .int .u32 T.lf, .int .i64 T.inn, .slice T.ka T.kl T.kc, .slice T.sa T.sl T.sc, .slice T.pa T.pl T.pc] 26)
    have n1 := heap_alloc_new (w.alloc (.cells #[.int .i64 T.k, .int .i64 T.d, .int .i64 T.f, .int .i64 T.dp, .int .u32 T.lf, .int .i64 T.inn, .slice T.ka T.kl T.kc, .slice T.sa T.sl T.sc, .slice T.pa T.pl T.pc] 26)) (.cells #[.int .i64 (i : Int), .int .u64 at_, .int .u64 fr, .int .u64 tt, .bool la, .bool false] 29)
    rw [show (w.alloc (.cells #[.int .i64 T.k, .int .i64 T.d, .int .i64 T.f, .int .i64 T.dp, .int .u32 T.lf, .int .i64 T.inn, .slice T.ka T.kl T.kc, .slice T.sa T.sl T.sc, .slice T.pa T.pl T.pc] 26)).heap.size = w.heap.size + 1 by simp] at n1
    have n0 := blk_alloc (o' := .cells #[.int .i64 (i : Int), .int .u64 at_, .int .u64 fr, .int .u64 tt, .bool la, .bool false] 29) n0
    have hb1 := hb0.alloc hb0.size (.cells #[.int .i64 (i : Int), .int .u64 at_, .int .u64 fr, .int .u64 tt, .bool la, .bool false] 29)
    have N0 := TW.hide n0
    have N1 := TW.hide n1
    have B0 := TW.hide hb1
    clear n0 n1 hb0 hb1
    go_enter Try.func17, Try.ntmps17
    refine wp_seq_k fun K hK => ?_
    have HK := TW.hide hK
    clear hK
    go_wp2_with fail
    refine HK.out _ _ ?_
    clear HK K
    generalize (w.alloc _).alloc _ = X at *
    obtain ⟨c0, c1, c2, c3, c4, c5, c6, c7, c8⟩ := cells9 N0.out
    obtain ⟨⟨s0, s1, s2, s3, s4, s5⟩, _⟩ := cells6f N1.out
    go_wp2_with fail
    refine (HP.out _).mono ?_
    rintro e1 w1 ⟨rfl, hb⟩
    clear c0 c1 c2 c3 c4 c5 c6 c7 c8 s0 s1 s2 s3 s4 s5
    have N0 := TW.hide (blk_keep N0.out hb)
    have N1 := TW.hide (blk_keep N1.out hb)
    have B1 : Hid (Below w.heap.size w w1) := B0.out.trans (hb.mono B0.out.size)
    clear hb B0
    obtain ⟨c0, c1, c2, c3, c4, c5, c6, c7, c8⟩ := cells9 N0.out
    obtain ⟨⟨s0, s1, s2, s3, s4, s5⟩, _⟩ := cells6f N1.out
    go_wp2_with fail
    refine (HS.out _).mono ?_
    rintro e2 w2 ⟨rfl, hb⟩
    clear c0 c1 c2 c3 c4 c5 c6 c7 c8 s0 s1 s2 s3 s4 s5
    have N1 := TW.hide (blk_alloc (o' := .cells #[.int .i64 ((i : Int) + 1), .int .u64 p, .int .u64 fr2, .int .u64 tt2, .bool la2, .bool ro2] 29) (blk_keep N1.out hb))
    have G2 := TW.hide (heap_alloc_new w2 (.cells #[.int .i64 ((i : Int) + 1), .int .u64 p, .int .u64 fr2, .int .u64 tt2, .bool la2, .bool ro2] 29))
    have B2 : Hid (Below w.heap.size w (w2.alloc (.cells #[.int .i64 ((i : Int) + 1), .int .u64 p, .int .u64 fr2, .int .u64 tt2, .bool la2, .bool ro2] 29))) := (B1.out.trans (hb.mono B1.out.size)).alloc (by have := (B1.out.trans (hb.mono B1.out.size)).size; omega) _
    clear hb B1
    obtain ⟨⟨s0, s1, s2, s3, s4, s5⟩, _⟩ := cells6f N1.out
    obtain ⟨⟨t0, t1, t2, t3, t4, t5⟩, _⟩ := cells6f G2.out
    go_wp2
    go_ret
    exact ⟨rfl, B2.out⟩
end LW
end Go.Proofs.Ytahmjdnnkifmnaa
