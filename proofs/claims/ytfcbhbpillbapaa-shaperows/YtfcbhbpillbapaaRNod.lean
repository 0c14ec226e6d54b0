/-
  What Nodes of the document gives.
-/
import Derived.Test.YtfcbhbpillbapaaRRow
import Derived.Test.YtfcbhbpillbapaaNods
namespace Go.Proofs.Ytfcbhbpillbapaa
open Go.RowKit
set_option linter.unusedVariables false
set_option linter.unusedSimpArgs false
namespace LW
open Words
theorem roL_len {T : Tr} {n : Nat} (hE : lvE T n = 0) : (roL T n).length ≤ 255 := by
  have hv := vd_ok (lvE_ok hE)
  have := ab_len T.f T.dp (T.dp.toNat - 1) 1 (lv T n)
  unfold roL
  rw [List.length_cons]
  omega
set_option maxRecDepth 100000 in
set_option maxHeartbeats 2000000 in
theorem rnodesE (T : Tr) (hT : 0 ≤ T.lf ∧ T.lf < 4294967296) (n : Nat) (hn : n < 18446744073709551616) (hE : lvE T n ≠ 0) (w : World) : Calls Try.prog 17 #[.agg (trC T), .int .u64 n] w fun e w' => e = .returned (.tuple #[.int .u64 0, .int .i64 (lvE T n)]) ∧ Below w.heap.size w w' := by
  have HL := TW.hide (fun W => rrowsE T hT n hn hE W)
  generalize lvE T n = v at *
  unfold trC at *
  have n0 := heap_alloc_new w (.cells #[.int .i64 T.k, .int .i64 T.d, .int .i64 T.f, .int .i64 T.dp, .int .u32 T.lf, .int .i64 T.inn, .slice T.ka T.kl T.kc, .slice T.sa T.sl T.sc, .slice T.pa T.pl T.pc] 26)
  have hb0 := (Below.refl w.heap.size w).alloc (Nat.le_refl _) (.cells #[.int .i64 T.k, .int .i64 T.d, .int .i64 T.f, .int .i64 T.dp, .int .u32 T.lf, .int .i64 T.inn, .slice T.ka T.kl T.kc, .slice T.sa T.sl T.sc, .slice T.pa T.pl T.pc] 26)
  have HB0 := TW.hide hb0
  have HN0 := TW.hide n0
  clear n0 hb0
  go_enter Try.func17, Try.ntmps17
  refine wp_seq_k fun K hK => ?_
  have HK := TW.hide hK
  clear hK
  go_wp2_with fail
  refine HK.out _ _ ?_
  clear HK K
  generalize w.alloc _ = X at *
  obtain ⟨c0, c1, c2, c3, c4, c5, c6, c7, c8⟩ := cells9 HN0.out
  go_wp2_with fail
  refine (HL.out _).mono ?_
  rintro e1 w1 ⟨rfl, hb⟩
  clear c0 c1 c2 c3 c4 c5 c6 c7 c8
  have HN1 := TW.hide (blk_keep HN0.out hb)
  have HB1 : Hid (Below w.heap.size w w1) := HB0.out.trans (hb.mono HB0.out.size)
  clear HN0 HB0 hb
  obtain ⟨c0, c1, c2, c3, c4, c5, c6, c7, c8⟩ := cells9 HN1.out
  go_wp2
  go_loop [8, 9] (fun a i => a = .int .u64 0 ∧ i = .int .i64 0) (fun _ _ => 0)
  case atStart => exact ⟨rfl, rfl⟩
  case round =>
    obtain ⟨rfl, rfl⟩ := hrel
    go_wp2
    go_ret2
    exact ⟨rfl, HB1.out⟩
theorem sm_take (l : List Nat) (k : Nat) (h : k < l.length) : IntKind.u64.wrap ((sm (l.take k) : Nat) + (l.getD k 0 : Int)) = ((sm (l.take (k + 1)) : Nat) : Int) := by
  have e : l.take (k + 1) = l.take k ++ [l.getD k 0] := by rw [List.take_add_one]; simp [h]
  rw [e, ← sm_snoc]
set_option maxRecDepth 100000 in
set_option maxHeartbeats 2000000 in
theorem rnodesOk (T : Tr) (hT : 0 ≤ T.lf ∧ T.lf < 4294967296) (n : Nat) (hn : n < 18446744073709551616) (hE : lvE T n = 0) (w : World) : Calls Try.prog 17 #[.agg (trC T), .int .u64 n] w fun e w' => e = .returned (.tuple #[.int .u64 (sm (roL T n) : Nat), .int .i64 0]) ∧ Below w.heap.size w w' := by
  have HL := TW.hide (fun W => rrowsOk T hT n hn hE W)
  unfold RoP at HL
  have hlen256 := roL_len hE
  obtain ⟨x, l, hl⟩ : ∃ x l, roL T n = x :: l := ⟨_, _, rfl⟩
  rw [hl] at HL hlen256 ⊢
  clear hl hE
  obtain ⟨S, hS⟩ : ∃ S, S = sm (x :: l) := ⟨_, rfl⟩
  rw [← hS]
  have HS := TW.hide hS
  clear hS
  unfold trC at *
  have n0 := heap_alloc_new w (.cells #[.int .i64 T.k, .int .i64 T.d, .int .i64 T.f, .int .i64 T.dp, .int .u32 T.lf, .int .i64 T.inn, .slice T.ka T.kl T.kc, .slice T.sa T.sl T.sc, .slice T.pa T.pl T.pc] 26)
  have hb0 := (Below.refl w.heap.size w).alloc (Nat.le_refl _) (.cells #[.int .i64 T.k, .int .i64 T.d, .int .i64 T.f, .int .i64 T.dp, .int .u32 T.lf, .int .i64 T.inn, .slice T.ka T.kl T.kc, .slice T.sa T.sl T.sc, .slice T.pa T.pl T.pc] 26)
  have HB0 := TW.hide hb0
  have HN0 := TW.hide n0
  clear n0 hb0
  go_enter Try.func17, Try.ntmps17
  refine wp_seq_k fun K hK => ?_
  have HK := TW.hide hK
  clear hK
  go_wp2_with fail
  refine HK.out _ _ ?_
  clear HK K
  generalize w.alloc _ = X at *
  obtain ⟨c0, c1, c2, c3, c4, c5, c6, c7, c8⟩ := cells9 HN0.out
  go_wp2_with fail
  refine (HL.out _).mono ?_
  rintro e1 w1 ⟨v, rfl, hown, hb⟩
  clear c0 c1 c2 c3 c4 c5 c6 c7 c8
  have HN1 := TW.hide (blk_keep HN0.out hb)
  have HB1 : Hid (Below w.heap.size w w1) := HB0.out.trans (hb.mono HB0.out.size)
  clear HN0 HB0 hb
  obtain ⟨c0, c1, c2, c3, c4, c5, c6, c7, c8⟩ := cells9 HN1.out
  obtain ⟨a, cap, rfl, hur, hml⟩ := ur_of_own hown
  obtain ⟨b, rfl, _, hc⟩ := hur
  have HC := TW.hide hc
  clear hown hc c0 c1 c2 c3 c4 c5 c6 c7 c8
  have HML := TW.hide hlen256
  clear hml hlen256
  have hst := fun k => sm_take (x :: l) k
  have HST := TW.hide hst
  clear hst
  have hsl : sm ((x :: l).take (x :: l).length) = S := by rw [List.take_length, HS.out]
  clear HS
  have HSL := TW.hide hsl
  clear hsl
  generalize x :: l = L at *
  generalize hlen : L.length = len at *
  have HLEN := TW.hide hlen
  clear hlen
  go_wp2
  go_loop [8, 9] (fun a i => ∃ k : Nat, a = .int .u64 (sm (L.take k) : Nat) ∧ i = .int .i64 (k : Int) ∧ k ≤ len) (fun a i => len - (intOf i).toNat)
  case atStart => exact ⟨0, rfl, rfl, by omega⟩
  case round =>
    obtain ⟨k, rfl, rfl, hk⟩ := hrel
    rcases Nat.lt_or_ge k len with hlt | hge
    · have hlt' : (k : Int) < (len : Int) := by omega
      have hk0 : (0 : Int) ≤ (k : Int) := by omega
      have hcc := HC.out k (by have := HLEN.out; omega)
      have hss := HST.out k (by have := HLEN.out; omega)
      have hw1 : IntKind.i64.wrap ((k : Int) + 1) = ((k + 1 : Nat) : Int) := by rw [IntKind.wrap_i64]; have := HML.out; have := HLEN.out; omega
      have hrel : ∃ j : Nat, Value.int .u64 (sm (L.take (k + 1)) : Nat) = .int .u64 (sm (L.take j) : Nat) ∧ Value.int .i64 ((k + 1 : Nat) : Int) = .int .i64 (j : Int) ∧ j ≤ len := ⟨k + 1, rfl, rfl, by omega⟩
      have HREL := TW.hide hrel
      clear hrel
      generalize sm (L.take k) = s0 at *
      generalize sm (L.take (k + 1)) = s1 at *
      generalize L.getD k 0 = y at *
      go_wp2
      exact ⟨by simpa using HREL.out, by simp [intOf]; omega⟩
    · have e : k = len := by omega
      subst e
      have hs := HSL.out
      generalize sm (L.take k) = s0 at *
      go_wp2
      go_ret2
      exact ⟨by rw [← hs]; rfl, HB1.out⟩
end LW
end Go.Proofs.Ytfcbhbpillbapaa
