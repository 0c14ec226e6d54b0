/-
  What Parent of the document gives, and the law on places.
-/
import Derived.Test.YtcpegipojkbcoaaParen
namespace Go.Proofs.Ytcpegipojkbcoaa
open Go.RowKit
set_option linter.unusedVariables false
set_option linter.unusedSimpArgs false
namespace LW
open Words
set_option maxRecDepth 100000 in
set_option maxHeartbeats 2000000 in
theorem rparE (T : Tr) (hT : 0 ≤ T.lf ∧ T.lf < 4294967296) (n : Nat) (hn : n < 18446744073709551616) (r : Int) (at_ : Nat) (E : Int) (hE : E ≠ 0) (H : ∀ W, Calls Try.prog 37 #[.agg (trC T), .int .u64 n, .int .i64 r, .int .u64 at_] W fun e w' => e = .returned (.tuple #[.agg (spC 0 0 0 0 false false), .int .i64 E]) ∧ Below W.heap.size W w') (w : World) : Calls Try.prog 38 #[.agg (trC T), .int .u64 n, .int .i64 r, .int .u64 at_] w fun e w' => e = .returned (.tuple #[.int .u64 0, .int .i64 E]) ∧ Below w.heap.size w w' := by
  have HL := TW.hide H
  clear H
  rw [sp0] at HL
  unfold trC at *
  have n0 := heap_alloc_new w (.cells #[.int .i64 T.k, .int .i64 T.d, .int .i64 T.f, .int .i64 T.dp, .int .u32 T.lf, .int .i64 T.inn, .slice T.ka T.kl T.kc, .slice T.sa T.sl T.sc, .slice T.pa T.pl T.pc] 26)
  have hb0 := (Below.refl w.heap.size w).alloc (Nat.le_refl _) (.cells #[.int .i64 T.k, .int .i64 T.d, .int .i64 T.f, .int .i64 T.dp, .int .u32 T.lf, .int .i64 T.inn, .slice T.ka T.kl T.kc, .slice T.sa T.sl T.sc, .slice T.pa T.pl T.pc] 26)
  have HB0 := TW.hide hb0
  have HN0 := TW.hide n0
  clear n0 hb0
  go_enter Try.func38, Try.ntmps38
  refine wp_seq_k fun K hK => ?_
  have HK := TW.hide hK
  clear hK
  go_wp2_with fail
  refine HK.out _ _ ?_
  clear HK K
  generalize w.alloc _ = X at *
  obtain ⟨c0, c1, c2, c3, c4, c5, c6, c7, c8⟩ := cells9 HN0.out
  refine wp_seq_k fun K hK => ?_
  have HK := TW.hide hK
  clear hK
  go_wp2_with fail
  refine (HL.out _).mono ?_
  rintro e1 w1 ⟨rfl, hb⟩
  clear c0 c1 c2 c3 c4 c5 c6 c7 c8
  have HN1 := TW.hide (blk_alloc (o' := .cells #[.int .i64 0, .int .u64 0, .int .u64 0, .int .u64 0, .bool false, .bool false] 50) (blk_keep HN0.out hb))
  have HB1 : Hid (Below w.heap.size w (w1.alloc (.cells #[.int .i64 0, .int .u64 0, .int .u64 0, .int .u64 0, .bool false, .bool false] 50))) := (HB0.out.trans (hb.mono HB0.out.size)).alloc (by have := (HB0.out.trans (hb.mono HB0.out.size)).size; omega) _
  have G1 := TW.hide (heap_alloc_new w1 (.cells #[.int .i64 0, .int .u64 0, .int .u64 0, .int .u64 0, .bool false, .bool false] 50))
  clear HN0 HB0 hb
  go_wp2
  refine HK.out _ _ ?_
  clear HK K
  generalize w1.alloc _ = V at *
  generalize w1.heap.size = g at *
  have hE' : (E != 0) = true := by simp [hE]
  go_wp2
  go_ret2
  exact ⟨rfl, HB1.out⟩
set_option maxRecDepth 100000 in
set_option maxHeartbeats 2000000 in
theorem rparG (T : Tr) (hT : 0 ≤ T.lf ∧ T.lf < 4294967296) (n : Nat) (hn : n < 18446744073709551616) (hE : lvE T n = 0) (i at_ fr tt : Nat) (la ro : Bool) (ha : at_ < 18446744073709551616) (hi : i < (roL T n).length) (hro : rtB (roL T n) (i : Int) = ro) (H : ∀ W, Calls Try.prog 37 #[.agg (trC T), .int .u64 n, .int .i64 (i : Int), .int .u64 at_] W fun e w' => e = .returned (.tuple #[.agg (spC (i : Int) at_ fr tt la ro), .int .i64 0]) ∧ Below W.heap.size W w') (w : World) : Calls Try.prog 38 #[.agg (trC T), .int .u64 n, .int .i64 (i : Int), .int .u64 at_] w fun e w' => e = .returned (if ro then .tuple #[.int .u64 0, .int .i64 6] else if nx T.f T.dp ((i : Int) + 1) ((roL T n).getD i 0) = 1 then .tuple #[.int .u64 0, .int .i64 0] else .tuple #[.int .u64 (at_ / T.f.toNat : Nat), .int .i64 0]) ∧ Below w.heap.size w w' := by
  have HL := TW.hide H
  clear H
  have hRw := rwsT hT hn hE
  have hvo := vd_ok (lvE_ok hE)
  have h255 := hRw.most
  have hne : roL T n ≠ [] := by unfold roL; simp
  have HRR := TW.hide (fun W => rrowsOk T hT n hn hE W)
  unfold RoP at HRR
  have HOW : Hid (∀ (W : World) (B : Nat) (v : Value), W.ownsRow B 27 1 v (roL T n).length (us (roL T n)) → ∃ a cap, v = .slice a (roL T n).length cap ∧ UR W a (roL T n)) := fun W B v h => ur_own hne h
  have HUR : Hid (∀ (W : World) (a : Option Addr), UR W a (roL T n) → ∃ b, a = some ⟨b, 0, none⟩ ∧ ∀ i, i < (roL T n).length → W.cell? ⟨b, i, none⟩ = some (.int .u64 ((roL T n).getD i 0 : Nat))) := fun W a h => by obtain ⟨b, e, _, h⟩ := h; exact ⟨b, e, h⟩
  have hnx : ro = false → i + 1 < (roL T n).length ∧ (roL T n).getD (i + 1) 0 = nx T.f T.dp ((i : Int) + 1) ((roL T n).getD i 0) := by
    intro h
    rw [h] at hro
    unfold rtB at hro
    rw [Int.toNat_natCast, decide_eq_false_iff_not] at hro
    have h1 : i + 1 < (roL T n).length := by omega
    refine ⟨h1, ?_⟩
    have := hRw.next i h1
    rwa [Int.natCast_add] at this
  have HNX := TW.hide hnx
  have hdv : ¬ nx T.f T.dp ((i : Int) + 1) ((roL T n).getD i 0) = 1 → ¬ T.f = 0 ∧ IntKind.u64.wrap ((at_ : Int) / T.f) = ((at_ / T.f.toNat : Nat) : Int) := by
    intro h
    have hf0 : ¬ T.f = 0 := by
      intro h'
      apply h
      unfold nx
      rw [if_pos (.inl h')]
    refine ⟨hf0, ?_⟩
    have := quo64 at_ T.f.toNat ha
    rwa [show ((T.f.toNat : Nat) : Int) = T.f by omega] at this
  have HDV := TW.hide hdv
  have wF : IntKind.u64.wrap T.f = T.f := by rw [IntKind.wrap_u64]; omega
  have hw1 : IntKind.i64.wrap ((i : Int) + 1) = ((i + 1 : Nat) : Int) := by rw [IntKind.wrap_i64]; omega
  clear hnx hdv hRw hne hro hvo hE ha
  generalize nx T.f T.dp ((i : Int) + 1) ((roL T n).getD i 0) = p at *
  generalize at_ / T.f.toNat = dv at *
  generalize roL T n = R at *
  generalize hlen : R.length = len at *
  clear hlen
  unfold trC spC at *
  have n0 := heap_alloc_new w (.cells #[.int .i64 T.k, .int .i64 T.d, .int .i64 T.f, .int .i64 T.dp, .int .u32 T.lf, .int .i64 T.inn, .slice T.ka T.kl T.kc, .slice T.sa T.sl T.sc, .slice T.pa T.pl T.pc] 26)
  have hb0 := (Below.refl w.heap.size w).alloc (Nat.le_refl _) (.cells #[.int .i64 T.k, .int .i64 T.d, .int .i64 T.f, .int .i64 T.dp, .int .u32 T.lf, .int .i64 T.inn, .slice T.ka T.kl T.kc, .slice T.sa T.sl T.sc, .slice T.pa T.pl T.pc] 26)
  have HB0 := TW.hide hb0
  have HN0 := TW.hide n0
  clear n0 hb0
  go_enter Try.func38, Try.ntmps38
  refine wp_seq_k fun K hK => ?_
  have HK := TW.hide hK
  clear hK
  go_wp2_with fail
  refine HK.out _ _ ?_
  clear HK K
  generalize w.alloc _ = X at *
  obtain ⟨c0, c1, c2, c3, c4, c5, c6, c7, c8⟩ := cells9 HN0.out
  refine wp_seq_k fun K hK => ?_
  have HK := TW.hide hK
  clear hK
  go_wp2_with fail
  refine (HL.out _).mono ?_
  rintro e1 w1 ⟨rfl, hb⟩
  clear c0 c1 c2 c3 c4 c5 c6 c7 c8
  have HN1 := TW.hide (blk_alloc (o' := .cells #[.int .i64 (i : Int), .int .u64 at_, .int .u64 fr, .int .u64 tt, .bool la, .bool ro] 50) (blk_keep HN0.out hb))
  have HB1 : Hid (Below w.heap.size w (w1.alloc (.cells #[.int .i64 (i : Int), .int .u64 at_, .int .u64 fr, .int .u64 tt, .bool la, .bool ro] 50))) := (HB0.out.trans (hb.mono HB0.out.size)).alloc (by have := (HB0.out.trans (hb.mono HB0.out.size)).size; omega) _
  have G1 := TW.hide (heap_alloc_new w1 (.cells #[.int .i64 (i : Int), .int .u64 at_, .int .u64 fr, .int .u64 tt, .bool la, .bool ro] 50))
  clear HN0 HB0 hb
  go_wp2
  refine HK.out _ _ ?_
  clear HK K
  generalize w1.alloc _ = V at *
  generalize w1.heap.size = g at *
  obtain ⟨⟨s0, s1, s2, s3, s4, s5⟩, _⟩ := cells6f G1.out
  cases ro with
  | true =>
    clear HNX HDV
    go_wp2
    go_ret2
    exact ⟨rfl, HB1.out⟩
  | false =>
    obtain ⟨k1, k2⟩ := HNX.out rfl
    have K2 := TW.hide k2
    have K1 := TW.hide k1
    clear HNX k2 k1
    obtain ⟨c0, c1, c2, c3, c4, c5, c6, c7, c8⟩ := cells9 HN1.out
    go_wp2_with fail
    refine (HRR.out _).mono ?_
    rintro e2 w2 ⟨v2, rfl, hown, hb⟩
    obtain ⟨a1, cap1, rfl, hur⟩ := HOW.out _ _ _ hown
    obtain ⟨b1, rfl, hcell⟩ := HUR.out _ _ hur
    have dq := hcell (i + 1) K1.out
    rw [K2.out] at dq
    clear hown hur hcell HOW HUR HRR c0 c1 c2 c3 c4 c5 c6 c7 c8 s0 s1 s2 s3 s4 s5
    have HN2 := TW.hide (blk_keep HN1.out hb)
    have HB2 : Hid (Below w.heap.size w w2) := HB1.out.trans (hb.mono HB1.out.size)
    clear HN1 HB1 hb
    have hk1 := K1.out
    have h0 : (0 : Int) ≤ ((i + 1 : Nat) : Int) := by omega
    have h3 : ((i + 1 : Nat) : Int) < (len : Int) := by omega
    clear hi hk1
    generalize i + 1 = j at *
    obtain ⟨c0, c1, c2, c3, c4, c5, c6, c7, c8⟩ := cells9 HN2.out
    by_cases hp : p = 1
    · subst hp
      clear HDV
      go_wp2
      go_ret2
      exact ⟨rfl, HB2.out⟩
    · have hp' : ((p : Int) == 1) = false := by simp; omega
      obtain ⟨k1, k2⟩ := HDV.out hp
      have HP := TW.hide hp
      clear hp HDV
      go_wp2
      go_ret2
      exact ⟨rfl, HB2.out⟩
theorem rparent_ (T : Tr) (hT : 0 ≤ T.lf ∧ T.lf < 4294967296) (n : Nat) (hn : n < 18446744073709551616) (r : Int) (at_ : Nat) (ha : at_ < 18446744073709551616) (w : World) : Calls Try.prog 38 #[.agg (trC T), .int .u64 n, .int .i64 r, .int .u64 at_] w fun e w' => e = .returned (paF T n r at_) ∧ Below w.heap.size w w' := by
  have hs := fun W => rspot_ T hT n hn r at_ W
  unfold spF at hs
  unfold paF
  by_cases hE : lvE T n = 0
  · rw [if_pos hE]
    simp only [if_pos hE] at hs
    by_cases hh : Has (roL T n) r at_
    · rw [if_pos hh]
      simp only [if_pos hh] at hs
      obtain ⟨i, rfl⟩ : ∃ i : Nat, r = (i : Int) := ⟨r.toNat, by have := hh.1; omega⟩
      have := rparG T hT n hn hE i at_ _ _ _ _ ha (by have := hh.2.1; omega) rfl hs w
      rw [Int.toNat_natCast]
      exact this
    · rw [if_neg hh]
      simp only [if_neg hh] at hs
      exact rparE T hT n hn r at_ 6 (by omega) hs w
  · rw [if_neg hE]
    simp only [if_neg hE] at hs
    exact rparE T hT n hn r at_ (lvE T n) hE hs w
end LW
end Go.Proofs.Ytcpegipojkbcoaa
