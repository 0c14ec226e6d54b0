/-
  What way and Size of the document give, in one word each.
-/
import Derived.Test.YtcpegipojkbcoaaRWay
namespace Go.Proofs.Ytcpegipojkbcoaa
open Go.RowKit
set_option linter.unusedVariables false
set_option linter.unusedSimpArgs false
namespace LW
open Words
/-- How many nodes way tells. -/
def waK (T : Tr) (n lf : Nat) : Nat := if waE T n lf = 0 then (roL T n).length else 0
/-- What way hands back. -/
def WayP (T : Tr) (n lf : Nat) (w : World) : Ending → World → Prop := fun e w' => ∃ v, e = .returned (.tuple #[v, .int .i64 (waE T n lf)]) ∧ (waE T n lf ≠ 0 → v = .slice none 0 0) ∧ w'.ownsRow w.heap.size 50 6 v (waK T n lf) (waC T n (roL T n) lf (waK T n lf)) ∧ Below w.heap.size w w'
theorem waE_cases (T : Tr) (n lf : Nat) : (waE T n lf = 0 ∧ lvE T n = 0 ∧ lf < (roL T n).getD 0 0) ∨ (waE T n lf ≠ 0 ∧ ¬ (lvE T n = 0 ∧ lf < (roL T n).getD 0 0)) := by
  unfold waE
  split
  · rename_i h
    split
    · rename_i h2; exact .inl ⟨rfl, h, h2⟩
    · rename_i h2; exact .inr ⟨by omega, fun hh => h2 hh.2⟩
  · rename_i h
    exact .inr ⟨h, fun hh => h hh.1⟩
theorem spF_no {T : Tr} {n lf : Nat} (hT : 0 ≤ T.lf ∧ T.lf < 4294967296) (hn : n < 18446744073709551616) (h : waE T n lf ≠ 0) : spF T n 0 lf = .tuple #[.agg (spC 0 0 0 0 false false), .int .i64 (waE T n lf)] := by
  unfold spF
  unfold waE at *
  by_cases hE : lvE T n = 0
  · rw [if_pos hE] at h ⊢
    rw [if_pos hE]
    by_cases hl : lf < (roL T n).getD 0 0
    · rw [if_pos hl] at h; exact absurd rfl h
    · rw [if_neg hl, if_neg (fun hh => hl hh.2.2)]
  · rw [if_neg hE, if_neg hE]
theorem spF_yes {T : Tr} {n lf : Nat} (hT : 0 ≤ T.lf ∧ T.lf < 4294967296) (hn : n < 18446744073709551616) (hE : lvE T n = 0) (hl : lf < (roL T n).getD 0 0) (i : Nat) (hi : i < (roL T n).length) : spF T n (i : Int) (aw T (roL T n) lf i) = .tuple #[.agg (waS T n (roL T n) lf i), .int .i64 0] := by
  have hh := aw_has (lvE_ok hE) (rwsT hT hn hE) hl i hi
  unfold spF
  rw [if_pos hE, if_pos hh]
  rfl
theorem paF_yes {T : Tr} {n lf : Nat} (hT : 0 ≤ T.lf ∧ T.lf < 4294967296) (hn : n < 18446744073709551616) (hE : lvE T n = 0) (hl : lf < (roL T n).getD 0 0) (i : Nat) (hi : i + 1 < (roL T n).length) : paF T n (i : Int) (aw T (roL T n) lf i) = .tuple #[.int .u64 (aw T (roL T n) lf (i + 1) : Nat), .int .i64 0] := by
  have hR := rwsT hT hn hE
  have hh := aw_has (lvE_ok hE) hR hl i (by omega)
  have hnx := hR.next i hi
  rw [natCast_succ] at hnx
  unfold paF
  rw [if_pos hE, if_pos hh, Int.toNat_natCast, aw, ← hnx]
  have hr : rtB (roL T n) (i : Int) = false := by unfold rtB; rw [Int.toNat_natCast]; simp; omega
  rw [hr]
  simp only [Bool.false_eq_true, if_false]
  split <;> rfl
theorem aw_small {T : Tr} {n lf : Nat} (hT : 0 ≤ T.lf ∧ T.lf < 4294967296) (hn : n < 18446744073709551616) (hE : lvE T n = 0) (hl : lf < (roL T n).getD 0 0) (i : Nat) (hi : i < (roL T n).length) : aw T (roL T n) lf i < 18446744073709551616 :=
  Nat.lt_trans (aw_lt (n := n) (lvE_ok hE) (rwsT hT hn hE) hl i hi) ((rwsT hT hn hE).small i hi)
theorem rway_ (T : Tr) (hT : 0 ≤ T.lf ∧ T.lf < 4294967296) (n : Nat) (hn : n < 18446744073709551616) (lf : Nat) (w : World) : Calls Try.prog 16 #[.agg (trC T), .int .u64 n, .int .u64 lf] w (WayP T n lf w) := by
  rcases waE_cases T n lf with ⟨h0, hE, hl⟩ | ⟨h0, _⟩
  · have hR := rwsT hT hn hE
    refine (rwayOk T hT n hn (roL T n) lf (roL T n).length rfl hR.most hR.two (fun i hi W => ?_) (fun i hi W => ?_) w).mono ?_
    · have := rspot_ T hT n hn (i : Int) (aw T (roL T n) lf i) W
      rwa [spF_yes hT hn hE hl i hi] at this
    · have := rparent_ T hT n hn (i : Int) (aw T (roL T n) lf i) (aw_small hT hn hE hl i (by omega)) W
      rwa [paF_yes hT hn hE hl i hi] at this
    · rintro e w' ⟨v, rfl, ho, hb⟩
      unfold WayP waK
      rw [h0, if_pos rfl]
      exact ⟨v, rfl, fun h => absurd rfl h, ho, hb⟩
  · refine (rwayE T hT n hn lf (waE T n lf) h0 (fun W => ?_) w).mono ?_
    · have := rspot_ T hT n hn 0 lf W
      rwa [spF_no hT hn h0] at this
    · rintro e w' ⟨rfl, hb⟩
      unfold WayP waK
      rw [if_neg h0]
      exact ⟨_, rfl, fun _ => rfl, ⟨rfl, .inl ⟨rfl, rfl⟩⟩, hb⟩
/-- The way's cells. -/
theorem way_open {w : World} {B : Nat} {v : Value} {T : Tr} {n : Nat} {R : List Nat} {lf k : Nat} (h : w.ownsRow B 50 6 v k (waC T n R lf k)) (hk : 0 < k) : ∃ g cap, v = .slice (some ⟨g, 0, none⟩) k cap ∧ B ≤ g ∧ g < w.heap.size ∧ ∀ i, i < k → ∀ c u, (waS T n R lf i).toList[c]? = some u → w.cell? ⟨g, i * 6 + c, none⟩ = some u := by
  rcases h.2 with ⟨_, h0⟩ | ⟨g, cap, cur, rfl, hg, hh, hn, hm, hc, ht⟩
  · omega
  · refine ⟨g, cap, rfl, hg, blk_lt hh, fun i hi c u hu => ?_⟩
    have hc6 : c < 6 := by have := (List.getElem?_eq_some_iff.1 hu).1; rwa [waS_size] at this
    refine blk_cell hh ?_
    have h1 : (cur.toList.take (k * 6))[i * 6 + c]? = some u := by
      rw [ht, waC_get T n R lf k i c hi hc6]
      exact hu
    rw [List.getElem?_take, if_pos (by omega)] at h1
    simpa using h1
/-- How many digests a path has. -/
def szF (T : Tr) (n lf : Nat) : Nat := if waE T n lf = 0 then szN T n (roL T n) lf ((roL T n).length - 1) % 18446744073709551616 else 0
set_option maxRecDepth 100000 in
set_option maxHeartbeats 2000000 in
theorem rsizeE (T : Tr) (hT : 0 ≤ T.lf ∧ T.lf < 4294967296) (n : Nat) (hn : n < 18446744073709551616) (lf : Nat) (E : Int) (H : ∀ W, Calls Try.prog 16 #[.agg (trC T), .int .u64 n, .int .u64 lf] W fun e w' => e = .returned (.tuple #[.slice none 0 0, .int .i64 E]) ∧ Below W.heap.size W w') (w : World) : Calls Try.prog 6 #[.agg (trC T), .int .u64 n, .int .u64 lf] w fun e w' => e = .returned (.tuple #[.int .u64 0, .int .i64 E]) ∧ Below w.heap.size w w' := by
  have HL := TW.hide H
  clear H
  unfold trC at *
  have n0 := heap_alloc_new w (.cells #[.int .i64 T.k, .int .i64 T.d, .int .i64 T.f, .int .i64 T.dp, .int .u32 T.lf, .int .i64 T.inn, .slice T.ka T.kl T.kc, .slice T.sa T.sl T.sc, .slice T.pa T.pl T.pc] 26)
  have hb0 := (Below.refl w.heap.size w).alloc (Nat.le_refl _) (.cells #[.int .i64 T.k, .int .i64 T.d, .int .i64 T.f, .int .i64 T.dp, .int .u32 T.lf, .int .i64 T.inn, .slice T.ka T.kl T.kc, .slice T.sa T.sl T.sc, .slice T.pa T.pl T.pc] 26)
  have HB0 := TW.hide hb0
  have HN0 := TW.hide n0
  clear n0 hb0
  go_enter Try.func6, Try.ntmps6
  refine wp_seq_k fun K hK => ?_
  have HK := TW.hide hK
  clear hK
  go_wp2_with fail
  refine HK.out _ _ ?_
  clear HK K
  generalize w.alloc _ = X at *
  obtain ⟨c0, c1, c2, c3, c4, c5, c6, c7, c8⟩ := cells9 HN0.out
  go_wp2_with fail
  refine (HL.out _).mono ?_
  rintro e1 w1 ⟨rfl, hb⟩
  clear c0 c1 c2 c3 c4 c5 c6 c7 c8
  have HN1 := TW.hide (blk_keep HN0.out hb)
  have HB1 : Hid (Below w.heap.size w w1) := HB0.out.trans (hb.mono HB0.out.size)
  clear HN0 HB0 hb
  obtain ⟨c0, c1, c2, c3, c4, c5, c6, c7, c8⟩ := cells9 HN1.out
  go_wp2
  go_loopw [10, 11] (fun q i wr => q = .int .u64 0 ∧ i = .int .i64 1 ∧ wr = w1) (fun q i wr => 0)
  case atStart => exact ⟨rfl, rfl, rfl⟩
  case round =>
    obtain ⟨rfl, rfl, rfl⟩ := hrel
    go_wp2
    go_ret2
    exact ⟨rfl, HB1.out⟩
set_option maxRecDepth 100000 in
set_option maxHeartbeats 2000000 in
theorem rsizeOk (T : Tr) (hT : 0 ≤ T.lf ∧ T.lf < 4294967296) (n : Nat) (hn : n < 18446744073709551616) (lf K : Nat) (R : List Nat) (hK2 : 2 ≤ K) (hK : K ≤ 255) (HF : ∀ i, i < K → wT T n R lf i < 18446744073709551616) (HI : ∀ i, i + 1 < K → wF T R lf (i + 1) < wT T n R lf (i + 1))
    (H : ∀ W, Calls Try.prog 16 #[.agg (trC T), .int .u64 n, .int .u64 lf] W fun e w' => ∃ v, e = .returned (.tuple #[v, .int .i64 0]) ∧ w'.ownsRow W.heap.size 50 6 v K (waC T n R lf K) ∧ Below W.heap.size W w') (w : World) : Calls Try.prog 6 #[.agg (trC T), .int .u64 n, .int .u64 lf] w fun e w' => e = .returned (.tuple #[.int .u64 (szN T n R lf (K - 1) % 18446744073709551616 : Nat), .int .i64 0]) ∧ Below w.heap.size w w' := by
  have HL := TW.hide H
  clear H
  have HF := TW.hide HF
  have HI := TW.hide HI
  have HS : Hid (∀ k, szN T n R lf (k + 1) = szN T n R lf k + (wT T n R lf (k + 1) - wF T R lf (k + 1) - 1)) := fun k => rfl
  have hS0 : szN T n R lf 0 = 0 := rfl
  obtain ⟨F, hFz⟩ : ∃ F, szN T n R lf (K - 1) % 18446744073709551616 = F := ⟨_, rfl⟩
  rw [hFz]
  have HFZ := TW.hide hFz
  clear hFz
  have HOP : Hid (∀ (W : World) (B : Nat) (v : Value), W.ownsRow B 50 6 v K (waC T n R lf K) → ∃ g cap, v = .slice (some ⟨g, 0, none⟩) K cap ∧ g < W.heap.size ∧ ∀ i, i < K → W.cell? ⟨g, i * 6 + 2, none⟩ = some (.int .u64 (wF T R lf i)) ∧ W.cell? ⟨g, i * 6 + 3, none⟩ = some (.int .u64 (wT T n R lf i))) := by
    intro W B v h
    obtain ⟨g, cap, e, _, hg, hc⟩ := way_open h (by omega)
    exact ⟨g, cap, e, hg, fun i hi => ⟨hc i hi 2 _ rfl, hc i hi 3 _ rfl⟩⟩
  unfold trC at *
  have n0 := heap_alloc_new w (.cells #[.int .i64 T.k, .int .i64 T.d, .int .i64 T.f, .int .i64 T.dp, .int .u32 T.lf, .int .i64 T.inn, .slice T.ka T.kl T.kc, .slice T.sa T.sl T.sc, .slice T.pa T.pl T.pc] 26)
  have hb0 := (Below.refl w.heap.size w).alloc (Nat.le_refl _) (.cells #[.int .i64 T.k, .int .i64 T.d, .int .i64 T.f, .int .i64 T.dp, .int .u32 T.lf, .int .i64 T.inn, .slice T.ka T.kl T.kc, .slice T.sa T.sl T.sc, .slice T.pa T.pl T.pc] 26)
  have HB0 := TW.hide hb0
  have HN0 := TW.hide n0
  clear n0 hb0
  go_enter Try.func6, Try.ntmps6
  refine wp_seq_k fun K hK => ?_
  have HK := TW.hide hK
  clear hK
  go_wp2_with fail
  refine HK.out _ _ ?_
  clear HK K
  generalize w.alloc _ = X at *
  obtain ⟨c0, c1, c2, c3, c4, c5, c6, c7, c8⟩ := cells9 HN0.out
  go_wp2_with fail
  refine (HL.out _).mono ?_
  rintro e1 w1 ⟨v, rfl, ho, hb⟩
  clear c0 c1 c2 c3 c4 c5 c6 c7 c8
  have HN1 := TW.hide (blk_keep HN0.out hb)
  have HB1 : Hid (Below w.heap.size w w1) := HB0.out.trans (hb.mono HB0.out.size)
  clear HN0 HB0 hb
  obtain ⟨c0, c1, c2, c3, c4, c5, c6, c7, c8⟩ := cells9 HN1.out
  obtain ⟨g, cap, rfl, hg, hc⟩ := HOP.out _ _ _ ho
  have HC := TW.hide hc
  clear HOP ho hc HL
  generalize wF T R lf = WF at *
  generalize wT T n R lf = WT at *
  generalize szN T n R lf = SZ at *
  clear c0 c1 c2 c3 c4 c5 c6 c7 c8 HN1
  go_wp2
  go_loopw [10, 11] (fun q i wr => ∃ (k q' : Nat), k + 1 ≤ K ∧ q = .int .u64 ((SZ k % 18446744073709551616 : Nat) : Int) ∧ i = .int .i64 ((k + 1 : Nat) : Int) ∧ wr = w1.drewN q') (fun q i wr => K - (intOf i).toNat)
  case atStart => exact ⟨0, 0, by omega, by rw [hS0]; rfl, rfl, rfl⟩
  case round =>
    obtain ⟨k, q, hk, rfl, rfl, rfl⟩ := hrel
    by_cases hlt : k + 1 < K
    · have hi1 : ((k + 1 : Nat) : Int) < (K : Int) := by omega
      obtain ⟨d2, d3⟩ := HC.out (k + 1) hlt
      have h1 := HF.out (k + 1) hlt
      have h2 := HI.out k hlt
      have h3 := HS.out k
      have e1 : IntKind.u64.wrap ((WT (k + 1) : Int) - (WF (k + 1) : Int)) = ((WT (k + 1) - WF (k + 1) : Nat) : Int) := by rw [IntKind.wrap_u64]; omega
      have e2 : IntKind.u64.wrap (((WT (k + 1) - WF (k + 1) : Nat) : Int) - 1) = ((WT (k + 1) - WF (k + 1) - 1 : Nat) : Int) := by rw [IntKind.wrap_u64]; omega
      have e3 : IntKind.u64.wrap (((SZ k % 18446744073709551616 : Nat) : Int) + ((WT (k + 1) - WF (k + 1) - 1 : Nat) : Int)) = ((SZ (k + 1) % 18446744073709551616 : Nat) : Int) := by rw [IntKind.wrap_u64, h3]; omega
      have e4 : IntKind.i64.wrap (((k + 1 : Nat) : Int) + 1) = ((k + 1 + 1 : Nat) : Int) := by rw [IntKind.wrap_i64]; omega
      have h0 : (0 : Int) ≤ ((k + 1 : Nat) : Int) := by omega
      have HLT := TW.hide hlt
      clear h1 h2 h3 hlt hk
      generalize SZ k % 18446744073709551616 = z0 at *
      generalize hz : SZ (k + 1) % 18446744073709551616 = z1 at *
      have HZ := TW.hide hz
      clear hz
      generalize hj : k + 1 = j at *
      have HJ := TW.hide hj
      clear hj
      generalize WT j - WF j - 1 = x2 at *
      generalize WT j - WF j = x1 at *
      go_wp2
      go_quiet (fail)
      go_wp2
      go_roundw
      case rel => exact ⟨k + 1, q + nq, by have := HLT.out; have := HJ.out; omega, by rw [HJ.out, HZ.out], by rw [HJ.out]; rfl, rfl⟩
      case measure => simp [intOf]; have := HLT.out; have := HJ.out; omega
    · have hi1 : ¬ ((k + 1 : Nat) : Int) < (K : Int) := by omega
      have HEK : Hid (K - 1 = k) := by show _ = _; omega
      clear hlt hk
      generalize ((k + 1 : Nat) : Int) = j at *
      obtain ⟨z, hz⟩ : ∃ z, SZ k % 18446744073709551616 = z := ⟨_, rfl⟩
      have HZ := TW.hide hz
      rw [hz]
      clear hz
      go_wp2
      go_ret2
      exact ⟨by rw [← HFZ.out, HEK.out, HZ.out]; rfl, below_drewN HB1.out _⟩
end LW
end Go.Proofs.Ytcpegipojkbcoaa
