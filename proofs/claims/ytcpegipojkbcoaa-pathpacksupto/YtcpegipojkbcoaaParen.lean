/-
  What Spot and Parent give, in one word each.
-/
import Derived.Test.YtcpegipojkbcoaaRSpotK
namespace Go.Proofs.Ytcpegipojkbcoaa
open Go.RowKit
set_option linter.unusedVariables false
set_option linter.unusedSimpArgs false
namespace LW
open Words
/-- What Spot hands back. -/
def spF (T : Tr) (n : Nat) (r : Int) (at_ : Nat) : Value := if lvE T n = 0 then (if Has (roL T n) r at_ then .tuple #[.agg (spC r at_ (frN T (roL T n) r at_) (toN T n (roL T n) r at_) (laB (roL T n) r at_) (rtB (roL T n) r)), .int .i64 0] else .tuple #[.agg (spC 0 0 0 0 false false), .int .i64 6]) else .tuple #[.agg (spC 0 0 0 0 false false), .int .i64 (lvE T n)]
theorem rwsT {T : Tr} {n : Nat} (hT : 0 ≤ T.lf ∧ T.lf < 4294967296) (hn : n < 18446744073709551616) (hE : lvE T n = 0) : Rws T (lv T n) (roL T n) :=
  rws (T := T) (m := lv T n) (lvE_ok hE) (by unfold lv; omega) (lv_lt T n (by have := vd_ok (lvE_ok hE); omega) hn)
theorem laidY (T : Tr) (hT : 0 ≤ T.lf ∧ T.lf < 4294967296) (n : Nat) (hn : n < 18446744073709551616) (hE : lvE T n = 0) (r : Int) (at_ : Nat) (hh : Has (roL T n) r at_) (w : World) : Calls Try.prog 48 #[.agg (trC T), .int .u64 n, .int .i64 r, .int .u64 at_] w fun e w' => e = .returned (.tuple #[.agg (lyC T n (lv T n)), .agg (stC r at_ ((roL T n).getD r.toNat 0) (blw n (roL T n) r)), .int .i64 0]) ∧ Below w.heap.size w w' := by
  have h := laidOk T hT n hn hE r at_ w
  unfold fdX fdE at h
  simp only [if_pos hh] at h
  exact h
theorem laidN (T : Tr) (hT : 0 ≤ T.lf ∧ T.lf < 4294967296) (n : Nat) (hn : n < 18446744073709551616) (hE : lvE T n = 0) (r : Int) (at_ : Nat) (hh : ¬ Has (roL T n) r at_) (w : World) : Calls Try.prog 48 #[.agg (trC T), .int .u64 n, .int .i64 r, .int .u64 at_] w fun e w' => e = .returned (.tuple #[.agg (lyC T n (lv T n)), .agg (stC 0 0 0 0), .int .i64 6]) ∧ Below w.heap.size w w' := by
  have h := laidOk T hT n hn hE r at_ w
  unfold fdX fdE at h
  simp only [if_neg hh] at h
  exact h
theorem spot_ (T : Tr) (hT : 0 ≤ T.lf ∧ T.lf < 4294967296) (n : Nat) (hn : n < 18446744073709551616) (r : Int) (at_ : Nat) (w : World) : Calls Try.prog 35 #[.agg (trC T), .int .u64 n, .int .i64 r, .int .u64 at_] w fun e w' => e = .returned (spF T n r at_) ∧ Below w.heap.size w w' := by
  unfold spF
  by_cases hE : lvE T n = 0
  · rw [if_pos hE]
    by_cases hh : Has (roL T n) r at_
    · rw [if_pos hh]
      have hRw := rwsT hT hn hE
      obtain ⟨f1, f2, f3, f4, f5, f6⟩ := spot_facts hn (lvE_ok hE) hT.1 hRw hh
      have hvo := vd_ok (lvE_ok hE)
      have hi : r.toNat < (roL T n).length := by have := hh.1; have := hh.2.1; omega
      exact spotG T hT (by omega) n (lv T n) r at_ _ _ _ _ _ _ f1 f2 f3 f4 f5 f6 rfl (hRw.pos _ hi) (hRw.small _ hi) (fun W => laidY T hT n hn hE r at_ hh W) w
    · rw [if_neg hh]
      exact spotE T hT n hn r at_ 6 (by omega) 0 0 0 0 T n (lv T n) (fun W => laidN T hT n hn hE r at_ hh W) w
  · rw [if_neg hE]
    exact spotE T hT n hn r at_ (lvE T n) hE 0 0 0 0 T0 0 0 (fun W => laidE T hT n hn hE r at_ W) w
theorem rspot_ (T : Tr) (hT : 0 ≤ T.lf ∧ T.lf < 4294967296) (n : Nat) (hn : n < 18446744073709551616) (r : Int) (at_ : Nat) (w : World) : Calls Try.prog 37 #[.agg (trC T), .int .u64 n, .int .i64 r, .int .u64 at_] w fun e w' => e = .returned (spF T n r at_) ∧ Below w.heap.size w w' := by
  unfold spF
  by_cases hE : lvE T n = 0
  · rw [if_pos hE]
    by_cases hh : Has (roL T n) r at_
    · rw [if_pos hh]
      obtain ⟨i, rfl⟩ : ∃ i : Nat, r = (i : Int) := ⟨r.toNat, by have := hh.1; omega⟩
      exact rspotK T hT n hn hE i at_ hh w
    · rw [if_neg hh]
      exact rspotN T hT n hn hE r at_ hh w
  · rw [if_neg hE]
    exact rspotE T hT n hn hE r at_ w
/-- What Parent hands back. -/
def paF (T : Tr) (n : Nat) (r : Int) (at_ : Nat) : Value := if lvE T n = 0 then (if Has (roL T n) r at_ then (if rtB (roL T n) r then .tuple #[.int .u64 0, .int .i64 6] else if nx T.f T.dp (r + 1) ((roL T n).getD r.toNat 0) = 1 then .tuple #[.int .u64 0, .int .i64 0] else .tuple #[.int .u64 (at_ / T.f.toNat : Nat), .int .i64 0]) else .tuple #[.int .u64 0, .int .i64 6]) else .tuple #[.int .u64 0, .int .i64 (lvE T n)]
set_option maxRecDepth 100000 in
set_option maxHeartbeats 2000000 in
theorem parE (T : Tr) (hT : 0 ≤ T.lf ∧ T.lf < 4294967296) (n : Nat) (hn : n < 18446744073709551616) (r : Int) (at_ : Nat) (E : Int) (hE : E ≠ 0) (a b c : Nat) (d : Int) (L : Tr) (n' m' : Nat)
    (H : ∀ W, Calls Try.prog 48 #[.agg (trC T), .int .u64 n, .int .i64 r, .int .u64 at_] W fun e w' => e = .returned (.tuple #[.agg (lyC L n' m'), .agg (stC d a b c), .int .i64 E]) ∧ Below W.heap.size W w') (w : World) : Calls Try.prog 36 #[.agg (trC T), .int .u64 n, .int .i64 r, .int .u64 at_] w fun e w' => e = .returned (.tuple #[.int .u64 0, .int .i64 E]) ∧ Below w.heap.size w w' := by
  have HL := TW.hide H
  clear H
  unfold trC lyC stC at HL
  unfold trC
  have n0 := heap_alloc_new w (.cells #[.int .i64 T.k, .int .i64 T.d, .int .i64 T.f, .int .i64 T.dp, .int .u32 T.lf, .int .i64 T.inn, .slice T.ka T.kl T.kc, .slice T.sa T.sl T.sc, .slice T.pa T.pl T.pc] 26)
  have hb0 := (Below.refl w.heap.size w).alloc (Nat.le_refl _) (.cells #[.int .i64 T.k, .int .i64 T.d, .int .i64 T.f, .int .i64 T.dp, .int .u32 T.lf, .int .i64 T.inn, .slice T.ka T.kl T.kc, .slice T.sa T.sl T.sc, .slice T.pa T.pl T.pc] 26)
  have HB0 := TW.hide hb0
  have HN0 := TW.hide n0
  clear n0 hb0
  go_enter Try.func36, Try.ntmps36
  refine wp_seq_k fun K hK => ?_
  have HK := TW.hide hK
  clear hK
  go_wp2_with fail
  refine HK.out _ _ ?_
  clear HK K
  generalize w.alloc _ = X at *
  obtain ⟨c0, c1, c2, c3, c4, c5, c6, c7, c8⟩ := cells9 HN0.out
  refine wp_seq_k fun K hK => ?_
  have HK := TW.hide hK
  clear hK
  go_wp2_with fail
  refine (HL.out _).mono ?_
  rintro e1 w1 ⟨rfl, hb⟩
  clear c0 c1 c2 c3 c4 c5 c6 c7 c8
  have HN1 := TW.hide (blk_keep HN0.out hb)
  have HB1 : Hid (Below w.heap.size w w1) := HB0.out.trans (hb.mono HB0.out.size)
  clear HN0 HB0 hb
  obtain ⟨Z, hZ, G2, G3, hbz⟩ := two_new w1 #[.int .i64 0, .int .i64 0, .int .i64 0, .int .i64 0, .int .u32 0, .int .i64 0, .slice none 0 0, .slice none 0 0, .slice none 0 0, .int .u64 0, .int .u64 0] #[.int .i64 0, .int .u64 0, .int .u64 0, .int .u64 0] #[.int .i64 L.k, .int .i64 L.d, .int .i64 L.f, .int .i64 L.dp, .int .u32 L.lf, .int .i64 L.inn, .slice L.ka L.kl L.kc, .slice L.sa L.sl L.sc, .slice L.pa L.pl L.pc, .int .u64 n', .int .u64 m'] #[.int .i64 d, .int .u64 a, .int .u64 b, .int .u64 c] 98 100
  have HZ := TW.hide hZ
  clear hZ
  go_wp2_with (first | (refine wpList_store_row (by rfl) 98 _ _ (by rfl) (w1.heap.size) #[.int .i64 L.k, .int .i64 L.d, .int .i64 L.f, .int .i64 L.dp, .int .u32 L.lf, .int .i64 L.inn, .slice L.ka L.kl L.kc, .slice L.sa L.sl L.sc, .slice L.pa L.pl L.pc, .int .u64 n', .int .u64 m'] (by rfl) (by rfl) 98 _ (blk_alloc (heap_alloc_new w1 (.cells #[.int .i64 0, .int .i64 0, .int .i64 0, .int .i64 0, .int .u32 0, .int .i64 0, .slice none 0 0, .slice none 0 0, .slice none 0 0, .int .u64 0, .int .u64 0] 98))) (by kernel_rfl) (by rfl) (by simp [Value.oneCell']) ?_) | (refine wpList_store_row (by rfl) 100 _ _ (by rfl) (w1.heap.size + 1) #[.int .i64 d, .int .u64 a, .int .u64 b, .int .u64 c] (by rfl) (by rfl) 100 _ (blk_other' (new1 w1 _ _) (show w1.heap.size + 1 ≠ w1.heap.size by omega)) (by kernel_rfl) (by rfl) (by simp [Value.oneCell']) ?_))
  rw [HZ.out]
  clear HZ
  refine HK.out _ _ ?_
  clear HK K
  have K2 := TW.hide G2
  have K3 := TW.hide G3
  have HN2 := TW.hide (blk_keep HN1.out hbz)
  have HB2 : Hid (Below w.heap.size w Z) := HB1.out.trans (hbz.mono HB1.out.size)
  clear G2 G3 HN1 HB1 hbz
  generalize w1.heap.size = g at *
  have hE' : (E != 0) = true := by simp [hE]
  go_wp2
  go_ret2
  exact ⟨rfl, HB2.out⟩
set_option maxRecDepth 100000 in
set_option maxHeartbeats 2000000 in
theorem parG (T : Tr) (hf : T.f = 0 ∨ (2 ≤ T.f ∧ T.f ≤ 255)) (hd : 2 ≤ T.dp ∧ T.dp ≤ 255) (n m : Nat) (r : Int) (h0 : 0 ≤ r) (hr : r ≤ 255) (at_ q b : Nat) (ha : at_ < 18446744073709551616) (hq : q < 18446744073709551616) (ro : Bool) (g6 : (decide (0 < r) && (q : Int) == 1) = ro)
    (H : ∀ W, Calls Try.prog 48 #[.agg (trC T), .int .u64 n, .int .i64 r, .int .u64 at_] W fun e w' => e = .returned (.tuple #[.agg (lyC T n m), .agg (stC r at_ q b), .int .i64 0]) ∧ Below W.heap.size W w') (w : World) : Calls Try.prog 36 #[.agg (trC T), .int .u64 n, .int .i64 r, .int .u64 at_] w fun e w' => e = .returned (if ro then .tuple #[.int .u64 0, .int .i64 6] else if nx T.f T.dp (r + 1) q = 1 then .tuple #[.int .u64 0, .int .i64 0] else .tuple #[.int .u64 (at_ / T.f.toNat : Nat), .int .i64 0]) ∧ Below w.heap.size w w' := by
  have HL := TW.hide H
  clear H
  have HA := TW.hide (fun W => above T n m (r + 1) q hf hd hq W)
  have HI := TW.hide (fun W => isRoot r at_ q b W)
  rw [g6] at HI
  clear g6
  have hw1 : IntKind.i64.wrap (r + 1) = r + 1 := by rw [IntKind.wrap_i64]; omega
  have wF : IntKind.u64.wrap T.f = T.f := by rw [IntKind.wrap_u64]; omega
  have hdv : ¬ nx T.f T.dp (r + 1) q = 1 → ¬ T.f = 0 ∧ IntKind.u64.wrap ((at_ : Int) / T.f) = ((at_ / T.f.toNat : Nat) : Int) := by
    intro h
    have hf0 : ¬ T.f = 0 := by
      intro h'
      apply h
      unfold nx
      rw [if_pos (.inl h')]
    refine ⟨hf0, ?_⟩
    have := quo64 at_ T.f.toNat ha
    rwa [show ((T.f.toNat : Nat) : Int) = T.f by omega] at this
  have HDV := TW.hide hdv
  clear hdv hf hd h0 hr ha hq
  generalize nx T.f T.dp (r + 1) q = p at *
  generalize at_ / T.f.toNat = dv at *
  unfold trC lyC stC at *
  have n0 := heap_alloc_new w (.cells #[.int .i64 T.k, .int .i64 T.d, .int .i64 T.f, .int .i64 T.dp, .int .u32 T.lf, .int .i64 T.inn, .slice T.ka T.kl T.kc, .slice T.sa T.sl T.sc, .slice T.pa T.pl T.pc] 26)
  have hb0 := (Below.refl w.heap.size w).alloc (Nat.le_refl _) (.cells #[.int .i64 T.k, .int .i64 T.d, .int .i64 T.f, .int .i64 T.dp, .int .u32 T.lf, .int .i64 T.inn, .slice T.ka T.kl T.kc, .slice T.sa T.sl T.sc, .slice T.pa T.pl T.pc] 26)
  have HB0 := TW.hide hb0
  have HN0 := TW.hide n0
  clear n0 hb0
  go_enter Try.func36, Try.ntmps36
  refine wp_seq_k fun K hK => ?_
  have HK := TW.hide hK
  clear hK
  go_wp2_with fail
  refine HK.out _ _ ?_
  clear HK K
  generalize w.alloc _ = X at *
  obtain ⟨c0, c1, c2, c3, c4, c5, c6, c7, c8⟩ := cells9 HN0.out
  refine wp_seq_k fun K hK => ?_
  have HK := TW.hide hK
  clear hK
  go_wp2_with fail
  refine (HL.out _).mono ?_
  rintro e1 w1 ⟨rfl, hb⟩
  clear c0 c1 c2 c3 c4 c5 c6 c7 c8
  have HN1 := TW.hide (blk_keep HN0.out hb)
  have HB1 : Hid (Below w.heap.size w w1) := HB0.out.trans (hb.mono HB0.out.size)
  clear HN0 HB0 hb
  obtain ⟨Z, hZ, G2, G3, hbz⟩ := two_new w1 #[.int .i64 0, .int .i64 0, .int .i64 0, .int .i64 0, .int .u32 0, .int .i64 0, .slice none 0 0, .slice none 0 0, .slice none 0 0, .int .u64 0, .int .u64 0] #[.int .i64 0, .int .u64 0, .int .u64 0, .int .u64 0] #[.int .i64 T.k, .int .i64 T.d, .int .i64 T.f, .int .i64 T.dp, .int .u32 T.lf, .int .i64 T.inn, .slice T.ka T.kl T.kc, .slice T.sa T.sl T.sc, .slice T.pa T.pl T.pc, .int .u64 n, .int .u64 m] #[.int .i64 r, .int .u64 at_, .int .u64 q, .int .u64 b] 98 100
  have HZ := TW.hide hZ
  clear hZ
  go_wp2_with (first | (refine wpList_store_row (by rfl) 98 _ _ (by rfl) (w1.heap.size) #[.int .i64 T.k, .int .i64 T.d, .int .i64 T.f, .int .i64 T.dp, .int .u32 T.lf, .int .i64 T.inn, .slice T.ka T.kl T.kc, .slice T.sa T.sl T.sc, .slice T.pa T.pl T.pc, .int .u64 n, .int .u64 m] (by rfl) (by rfl) 98 _ (blk_alloc (heap_alloc_new w1 (.cells #[.int .i64 0, .int .i64 0, .int .i64 0, .int .i64 0, .int .u32 0, .int .i64 0, .slice none 0 0, .slice none 0 0, .slice none 0 0, .int .u64 0, .int .u64 0] 98))) (by kernel_rfl) (by rfl) (by simp [Value.oneCell']) ?_) | (refine wpList_store_row (by rfl) 100 _ _ (by rfl) (w1.heap.size + 1) #[.int .i64 r, .int .u64 at_, .int .u64 q, .int .u64 b] (by rfl) (by rfl) 100 _ (blk_other' (new1 w1 _ _) (show w1.heap.size + 1 ≠ w1.heap.size by omega)) (by kernel_rfl) (by rfl) (by simp [Value.oneCell']) ?_))
  rw [HZ.out]
  clear HZ
  refine HK.out _ _ ?_
  clear HK K
  have K2 := TW.hide G2
  have K3 := TW.hide G3
  have HN2 := TW.hide (blk_keep HN1.out hbz)
  have HB2 : Hid (Below w.heap.size w Z) := HB1.out.trans (hbz.mono HB1.out.size)
  clear G2 G3 HN1 HB1 hbz
  generalize w1.heap.size = g at *
  obtain ⟨⟨d0, d1, d2, d3⟩, _⟩ := cells4 K3.out
  go_wp2_with fail
  refine (HI.out _).mono ?_
  rintro e2 w2 ⟨rfl, hb⟩
  clear d0 d1 d2 d3
  have K2 := TW.hide (blk_keep K2.out hb)
  have K3 := TW.hide (blk_keep K3.out hb)
  have HN3 := TW.hide (blk_keep HN2.out hb)
  have HB3 : Hid (Below w.heap.size w w2) := HB2.out.trans (hb.mono HB2.out.size)
  clear HN2 HB2 hb
  cases ro with
  | true =>
    go_wp2
    go_ret2
    exact ⟨rfl, HB3.out⟩
  | false =>
    obtain ⟨⟨d0, d1, d2, d3⟩, _⟩ := cells4 K3.out
    obtain ⟨c0, c1, c2, c3, c4, c5, c6, c7, c8, c9, c10, _⟩ := cells11 K2.out
    go_wp2_with fail
    refine (HA.out _).mono ?_
    rintro e3 w3 ⟨rfl, hb⟩
    clear d0 d1 d2 d3 c0 c1 c2 c3 c4 c5 c6 c7 c8 c9 c10
    have HN4 := TW.hide (blk_keep HN3.out hb)
    have HB4 : Hid (Below w.heap.size w w3) := HB3.out.trans (hb.mono HB3.out.size)
    clear HN3 HB3 hb
    obtain ⟨c0, c1, c2, c3, c4, c5, c6, c7, c8⟩ := cells9 HN4.out
    by_cases hp : p = 1
    · subst hp
      go_wp2
      go_ret2
      exact ⟨rfl, HB4.out⟩
    · have hp' : ((p : Int) == 1) = false := by simp; omega
      obtain ⟨k1, k2⟩ := HDV.out hp
      have HP := TW.hide hp
      clear hp HDV
      go_wp2
      go_ret2
      exact ⟨rfl, HB4.out⟩
theorem parent_ (T : Tr) (hT : 0 ≤ T.lf ∧ T.lf < 4294967296) (n : Nat) (hn : n < 18446744073709551616) (r : Int) (at_ : Nat) (ha : at_ < 18446744073709551616) (w : World) : Calls Try.prog 36 #[.agg (trC T), .int .u64 n, .int .i64 r, .int .u64 at_] w fun e w' => e = .returned (paF T n r at_) ∧ Below w.heap.size w w' := by
  unfold paF
  by_cases hE : lvE T n = 0
  · rw [if_pos hE]
    by_cases hh : Has (roL T n) r at_
    · rw [if_pos hh]
      have hRw := rwsT hT hn hE
      obtain ⟨f1, f2, f3, f4, f5, f6⟩ := spot_facts hn (lvE_ok hE) hT.1 hRw hh
      have hvo := vd_ok (lvE_ok hE)
      have hi : r.toNat < (roL T n).length := by have := hh.1; have := hh.2.1; omega
      have hm := hRw.most
      exact parG T hvo.2.1 ⟨hvo.2.2.1, hvo.2.2.2.1⟩ n (lv T n) r hh.1 (by have := hh.2.1; omega) at_ _ _ ha (hRw.small _ hi) _ f6 (fun W => laidY T hT n hn hE r at_ hh W) w
    · rw [if_neg hh]
      exact parE T hT n hn r at_ 6 (by omega) 0 0 0 0 T n (lv T n) (fun W => laidN T hT n hn hE r at_ hh W) w
  · rw [if_neg hE]
    exact parE T hT n hn r at_ (lvE T n) hE 0 0 0 0 T0 0 0 (fun W => laidE T hT n hn hE r at_ W) w
end LW
end Go.Proofs.Ytcpegipojkbcoaa
