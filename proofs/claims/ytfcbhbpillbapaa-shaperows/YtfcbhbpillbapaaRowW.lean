/-
  The law on the rows.
-/
import Derived.Test.YtfcbhbpillbapaaRNod
import Derived.Test.YtfcbhbpillbapaaNumArgs
namespace Go.Proofs.Ytfcbhbpillbapaa
open Go.RowKit
set_option linter.unusedVariables false
set_option linter.unusedSimpArgs false
namespace LW
open Words
set_option maxRecDepth 100000 in
set_option maxHeartbeats 2000000 in
theorem rowsW (T : Tr) (s t : List Int) (n0 : Int) (w : World) (hT : 0 ≤ T.lf ∧ T.lf < 4294967296) (hx1 : T.sl = s.length) (hx2 : Lies w T.sa T.sc s) (hx3 : T.pl = t.length) (hx4 : Lies w T.pa T.pc t) (hr : (Lit.int .u64 n0).wf = true) : Calls Try.prog 4 #[.agg (trC T), .int .u64 n0] w fun e w' => e = .returned (.bool true) ∧ Below w.heap.size w w' := by
  clear hx1 hx2 hx3 hx4
  obtain ⟨n, rfl, hn⟩ := u64_nat hr
  clear hr
  have HA := TW.hide (fun W => awake W)
  have H1 := TW.hide (fun W => leaves T hT n hn W)
  have H2 := TW.hide (fun W => rleaves T hT n hn W)
  generalize lvN T n = m at *
  by_cases hE : lvE T n = 0
  · have H3 := TW.hide (fun W => srowsOk T hT n hn hE W)
    have H4 := TW.hide (fun W => rrowsOk T hT n hn hE W)
    have H5 := TW.hide (fun W => nodesOk T hT n hn hE W)
    have H6 := TW.hide (fun W => rnodesOk T hT n hn hE W)
    have h256 := roL_len hE
    have hne : roL T n ≠ [] := by unfold roL; simp
    unfold RoP at H3 H4
    rw [hE] at H1 H2
    clear hE
    generalize sm (roL T n) = S at *
    have HOW : Hid (∀ (W : World) (B : Nat) (v : Value), W.ownsRow B 32 1 v (roL T n).length (us (roL T n)) → ∃ a cap, v = .slice a (roL T n).length cap ∧ UR W a (roL T n)) := fun W B v h => ur_own hne h
    have HUR : Hid (∀ (W : World) (a : Option Addr), UR W a (roL T n) → ∃ b, a = some ⟨b, 0, none⟩ ∧ ∀ i, i < (roL T n).length → W.cell? ⟨b, i, none⟩ = some (.int .u64 ((roL T n).getD i 0 : Nat))) := fun W a h => by obtain ⟨b, e, _, h⟩ := h; exact ⟨b, e, h⟩
    have H256 := TW.hide h256
    clear h256 hne
    generalize roL T n = L at *
    generalize hlen : L.length = len at *
    clear hlen
    unfold trC at *
    have n0 := heap_alloc_new w (.cells #[.int .i64 T.k, .int .i64 T.d, .int .i64 T.f, .int .i64 T.dp, .int .u32 T.lf, .int .i64 T.inn, .slice T.ka T.kl T.kc, .slice T.sa T.sl T.sc, .slice T.pa T.pl T.pc] 26)
    have hb0 := (Below.refl w.heap.size w).alloc (Nat.le_refl _) (.cells #[.int .i64 T.k, .int .i64 T.d, .int .i64 T.f, .int .i64 T.dp, .int .u32 T.lf, .int .i64 T.inn, .slice T.ka T.kl T.kc, .slice T.sa T.sl T.sc, .slice T.pa T.pl T.pc] 26)
    have HB0 := TW.hide hb0
    have HN0 := TW.hide n0
    clear n0 hb0
    go_enter Try.func4, Try.ntmps4
    refine wp_seq_k fun K hK => ?_
    have HK := TW.hide hK
    clear hK
    go_wp2_with fail
    refine HK.out _ _ ?_
    clear HK K
    generalize w.alloc _ = X at *
    obtain ⟨c0, c1, c2, c3, c4, c5, c6, c7, c8⟩ := cells9 HN0.out
    refine wp_seq_k fun K hK => ?_
    have HK := TW.hide hK
    clear hK
    go_wp2_with fail
    refine (H1.out _).mono ?_
    rintro e1 w1 ⟨rfl, hb⟩
    clear c0 c1 c2 c3 c4 c5 c6 c7 c8
    have HN1 := TW.hide (blk_keep HN0.out hb)
    have HB1 : Hid (Below w.heap.size w w1) := HB0.out.trans (hb.mono HB0.out.size)
    clear HN0 HB0 hb
    obtain ⟨c0, c1, c2, c3, c4, c5, c6, c7, c8⟩ := cells9 HN1.out
    go_wp2
    refine HK.out _ _ ?_
    clear HK K
    refine wp_seq_k fun K hK => ?_
    have HK := TW.hide hK
    clear hK
    go_wp2_with fail
    refine (H2.out _).mono ?_
    rintro e2 w2 ⟨rfl, hb⟩
    clear c0 c1 c2 c3 c4 c5 c6 c7 c8
    have HN2 := TW.hide (blk_keep HN1.out hb)
    have HB2 : Hid (Below w.heap.size w w2) := HB1.out.trans (hb.mono HB1.out.size)
    clear HN1 HB1 hb
    obtain ⟨c0, c1, c2, c3, c4, c5, c6, c7, c8⟩ := cells9 HN2.out
    go_wp2
    refine HK.out _ _ ?_
    clear HK K
    refine wp_seq_k fun K hK => ?_
    have HK := TW.hide hK
    clear hK
    go_wp2
    refine HK.out _ _ ?_
    clear HK K
    refine wp_seq_k fun K hK => ?_
    have HK := TW.hide hK
    clear hK
    go_wp2_with fail
    refine (H3.out _).mono ?_
    rintro e3 w3 ⟨v1, rfl, own1, hb⟩
    clear c0 c1 c2 c3 c4 c5 c6 c7 c8
    have HN3 := TW.hide (blk_keep HN2.out hb)
    have HB3 : Hid (Below w.heap.size w w3) := HB2.out.trans (hb.mono HB2.out.size)
    clear HN2 HB2 hb
    obtain ⟨c0, c1, c2, c3, c4, c5, c6, c7, c8⟩ := cells9 HN3.out
    obtain ⟨a1, cap1, rfl, hur1⟩ := HOW.out _ _ _ own1
    have U1 := TW.hide hur1
    clear own1 hur1
    go_wp2
    refine HK.out _ _ ?_
    clear HK K
    refine wp_seq_k fun K hK => ?_
    have HK := TW.hide hK
    clear hK
    go_wp2_with fail
    refine (H4.out _).mono ?_
    rintro e4 w4 ⟨v2, rfl, own2, hb⟩
    clear c0 c1 c2 c3 c4 c5 c6 c7 c8
    have HN4 := TW.hide (blk_keep HN3.out hb)
    have HB4 : Hid (Below w.heap.size w w4) := HB3.out.trans (hb.mono HB3.out.size)
    have U1b := TW.hide (U1.out.below hb)
    clear HN3 HB3 hb U1
    obtain ⟨c0, c1, c2, c3, c4, c5, c6, c7, c8⟩ := cells9 HN4.out
    obtain ⟨a2, cap2, rfl, hur2⟩ := HOW.out _ _ _ own2
    have U2 := TW.hide hur2
    clear own2 hur2
    go_wp2
    refine HK.out _ _ ?_
    clear HK K
    refine wp_seq_k fun K hK => ?_
    have HK := TW.hide hK
    clear hK
    go_wp2
    refine HK.out _ _ ?_
    clear HK K
    refine wp_seq_k fun K hK => ?_
    have HK := TW.hide hK
    clear hK
    clear c0 c1 c2 c3 c4 c5 c6 c7 c8
    go_wp2
    go_loopw [11] (fun i wr => ∃ k : Nat, i = .int .i64 (k : Int) ∧ k ≤ len ∧ Below w4.heap.size w4 wr) (fun i wr => len - (intOf i).toNat)
    case atStart => exact ⟨0, rfl, by omega, Below.refl _ _⟩
    case round =>
      obtain ⟨k, rfl, hk, hb⟩ := hrel
      have HBW := TW.hide hb
      rcases Nat.lt_or_ge k len with hlt | hge
      · obtain ⟨b1, rfl, hc1⟩ := HUR.out _ _ (U1b.out.below hb)
        obtain ⟨b2, rfl, hc2⟩ := HUR.out _ _ (U2.out.below hb)
        have d1 := hc1 k hlt
        have d2 := hc2 k hlt
        clear hc1 hc2 hb
        have hlt' : (k : Int) < (len : Int) := by omega
        have hk0 : (0 : Int) ≤ (k : Int) := by omega
        have hw1 : IntKind.i64.wrap ((k : Int) + 1) = ((k + 1 : Nat) : Int) := by rw [IntKind.wrap_i64]; have := H256.out; omega
        generalize L.getD k 0 = y at *
        have hyy : ((y : Int) != (y : Int)) = false := by simp
        go_wp2
        go_quiet (fail)
        go_wp2
        exact ⟨⟨k + 1, by simp, by omega, below_drewN HBW.out nq⟩, by simp [intOf]; omega⟩
      · have HN5 := TW.hide (blk_keep HN4.out hb)
        have HB5 : Hid (Below w.heap.size w wr) := HB4.out.trans (hb.mono HB4.out.size)
        obtain ⟨c0, c1, c2, c3, c4, c5, c6, c7, c8⟩ := cells9 HN5.out
        have hge' : ¬ (k : Int) < (len : Int) := by omega
        clear hb HBW U1b U2
        go_wp2
        refine HK.out _ _ ?_
        clear HK
        go_wp2_with fail
        refine (H5.out _).mono ?_
        rintro e6 w6 ⟨rfl, hb⟩
        clear c0 c1 c2 c3 c4 c5 c6 c7 c8
        have HN6 := TW.hide (blk_keep HN5.out hb)
        have HB6 : Hid (Below w.heap.size w w6) := HB5.out.trans (hb.mono HB5.out.size)
        clear HN5 HB5 hb
        obtain ⟨c0, c1, c2, c3, c4, c5, c6, c7, c8⟩ := cells9 HN6.out
        go_wp2_with fail
        refine (H6.out _).mono ?_
        rintro e7 w7 ⟨rfl, hb⟩
        clear c0 c1 c2 c3 c4 c5 c6 c7 c8
        have HN7 := TW.hide (blk_keep HN6.out hb)
        have HB7 : Hid (Below w.heap.size w w7) := HB6.out.trans (hb.mono HB6.out.size)
        clear HN6 HB6 hb
        obtain ⟨c0, c1, c2, c3, c4, c5, c6, c7, c8⟩ := cells9 HN7.out
        go_wp2_with fail
        refine (HA.out _).mono ?_
        rintro e8 w8 ⟨rfl, hb⟩
        have HB8 : Hid (Below w.heap.size w w8) := HB7.out.trans (hb.mono HB7.out.size)
        clear hb HB7
        go_wp2
        go_ret
        exact ⟨rfl, HB8.out⟩
  · have H3 := TW.hide (fun W => srowsE T hT n hn hE W)
    have H4 := TW.hide (fun W => rrowsE T hT n hn hE W)
    have H5 := TW.hide (fun W => nodesE T hT n hn hE W)
    have H6 := TW.hide (fun W => rnodesE T hT n hn hE W)
    clear hE
    generalize lvE T n = v at *
    unfold trC at *
    have n0 := heap_alloc_new w (.cells #[.int .i64 T.k, .int .i64 T.d, .int .i64 T.f, .int .i64 T.dp, .int .u32 T.lf, .int .i64 T.inn, .slice T.ka T.kl T.kc, .slice T.sa T.sl T.sc, .slice T.pa T.pl T.pc] 26)
    have hb0 := (Below.refl w.heap.size w).alloc (Nat.le_refl _) (.cells #[.int .i64 T.k, .int .i64 T.d, .int .i64 T.f, .int .i64 T.dp, .int .u32 T.lf, .int .i64 T.inn, .slice T.ka T.kl T.kc, .slice T.sa T.sl T.sc, .slice T.pa T.pl T.pc] 26)
    have HB0 := TW.hide hb0
    have HN0 := TW.hide n0
    clear n0 hb0
    go_enter Try.func4, Try.ntmps4
    refine wp_seq_k fun K hK => ?_
    have HK := TW.hide hK
    clear hK
    go_wp2_with fail
    refine HK.out _ _ ?_
    clear HK K
    generalize w.alloc _ = X at *
    obtain ⟨c0, c1, c2, c3, c4, c5, c6, c7, c8⟩ := cells9 HN0.out
    refine wp_seq_k fun K hK => ?_
    have HK := TW.hide hK
    clear hK
    go_wp2_with fail
    refine (H1.out _).mono ?_
    rintro e1 w1 ⟨rfl, hb⟩
    clear c0 c1 c2 c3 c4 c5 c6 c7 c8
    have HN1 := TW.hide (blk_keep HN0.out hb)
    have HB1 : Hid (Below w.heap.size w w1) := HB0.out.trans (hb.mono HB0.out.size)
    clear HN0 HB0 hb
    obtain ⟨c0, c1, c2, c3, c4, c5, c6, c7, c8⟩ := cells9 HN1.out
    go_wp2
    refine HK.out _ _ ?_
    clear HK K
    refine wp_seq_k fun K hK => ?_
    have HK := TW.hide hK
    clear hK
    go_wp2_with fail
    refine (H2.out _).mono ?_
    rintro e2 w2 ⟨rfl, hb⟩
    clear c0 c1 c2 c3 c4 c5 c6 c7 c8
    have HN2 := TW.hide (blk_keep HN1.out hb)
    have HB2 : Hid (Below w.heap.size w w2) := HB1.out.trans (hb.mono HB1.out.size)
    clear HN1 HB1 hb
    obtain ⟨c0, c1, c2, c3, c4, c5, c6, c7, c8⟩ := cells9 HN2.out
    go_wp2
    refine HK.out _ _ ?_
    clear HK K
    refine wp_seq_k fun K hK => ?_
    have HK := TW.hide hK
    clear hK
    go_wp2
    refine HK.out _ _ ?_
    clear HK K
    refine wp_seq_k fun K hK => ?_
    have HK := TW.hide hK
    clear hK
    go_wp2_with fail
    refine (H3.out _).mono ?_
    rintro e3 w3 ⟨rfl, hb⟩
    clear c0 c1 c2 c3 c4 c5 c6 c7 c8
    have HN3 := TW.hide (blk_keep HN2.out hb)
    have HB3 : Hid (Below w.heap.size w w3) := HB2.out.trans (hb.mono HB2.out.size)
    clear HN2 HB2 hb
    obtain ⟨c0, c1, c2, c3, c4, c5, c6, c7, c8⟩ := cells9 HN3.out
    go_wp2
    refine HK.out _ _ ?_
    clear HK K
    refine wp_seq_k fun K hK => ?_
    have HK := TW.hide hK
    clear hK
    go_wp2_with fail
    refine (H4.out _).mono ?_
    rintro e4 w4 ⟨rfl, hb⟩
    clear c0 c1 c2 c3 c4 c5 c6 c7 c8
    have HN4 := TW.hide (blk_keep HN3.out hb)
    have HB4 : Hid (Below w.heap.size w w4) := HB3.out.trans (hb.mono HB3.out.size)
    clear HN3 HB3 hb
    obtain ⟨c0, c1, c2, c3, c4, c5, c6, c7, c8⟩ := cells9 HN4.out
    go_wp2
    refine HK.out _ _ ?_
    clear HK K
    refine wp_seq_k fun K hK => ?_
    have HK := TW.hide hK
    clear hK
    go_wp2
    refine HK.out _ _ ?_
    clear HK K
    refine wp_seq_k fun K hK => ?_
    have HK := TW.hide hK
    clear hK
    go_wp2
    go_loop [11] (fun i => i = .int .i64 0) (fun _ => 0)
    case atStart => rfl
    case round =>
      subst hrel
      go_wp2
      refine HK.out _ _ ?_
      clear HK
      go_wp2_with fail
      refine (H5.out _).mono ?_
      rintro e5 w5 ⟨rfl, hb⟩
      clear c0 c1 c2 c3 c4 c5 c6 c7 c8
      have HN5 := TW.hide (blk_keep HN4.out hb)
      have HB5 : Hid (Below w.heap.size w w5) := HB4.out.trans (hb.mono HB4.out.size)
      clear HN4 HB4 hb
      obtain ⟨c0, c1, c2, c3, c4, c5, c6, c7, c8⟩ := cells9 HN5.out
      go_wp2_with fail
      refine (H6.out _).mono ?_
      rintro e6 w6 ⟨rfl, hb⟩
      clear c0 c1 c2 c3 c4 c5 c6 c7 c8
      have HN6 := TW.hide (blk_keep HN5.out hb)
      have HB6 : Hid (Below w.heap.size w w6) := HB5.out.trans (hb.mono HB5.out.size)
      clear HN5 HB5 hb
      obtain ⟨c0, c1, c2, c3, c4, c5, c6, c7, c8⟩ := cells9 HN6.out
      go_wp2_with fail
      refine (HA.out _).mono ?_
      rintro e8 w8 ⟨rfl, hb⟩
      have HB8 : Hid (Below w.heap.size w w8) := HB6.out.trans (hb.mono HB6.out.size)
      clear hb HB6
      go_wp2
      go_ret
      exact ⟨rfl, HB8.out⟩
end LW
end Go.Proofs.Ytfcbhbpillbapaa
