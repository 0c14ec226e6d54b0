/-
  When systems are alike; Bound, the document's.
-/
import Derived.Test.YtlmnllgcoikkmaaPv5
import Derived.Test.YtlmnllgcoikkmaaSysV
namespace Go.Proofs.Ytlmnllgcoikkmaa
open Go.RowKit
set_option linter.unusedVariables false
set_option linter.unusedSimpArgs false
namespace LW
open Mc
set_option maxHeartbeats 4000000 in
theorem ints_same (a b : Option Addr) (ac bc : Nat) (xs : List Int) (w : World) (h1 : NR w a xs) (h2 : NR w b xs) (hn : xs.length ≤ 9223372036854775807) :
    Calls Try.prog 23 #[.slice a xs.length ac, .slice b xs.length bc] w fun e w' => e = .returned (.bool true) ∧ Below w.heap.size w w' := by
  have HX : Hid (∀ k W, k < xs.length → Below w.heap.size w W → ∃ b1 o1 b2 o2, a = some ⟨b1, o1, none⟩ ∧ b = some ⟨b2, o2, none⟩ ∧ W.cell? ⟨b1, o1 + k, none⟩ = some (.int .i64 (xs.getD k 0)) ∧ W.cell? ⟨b2, o2 + k, none⟩ = some (.int .i64 (xs.getD k 0))) := fun k W hk hW => by
    rcases h1 with h | ⟨b1, o1, rfl, hc1⟩
    · rw [h] at hk; simp at hk
    rcases h2 with h | ⟨b2, o2, rfl, hc2⟩
    · rw [h] at hk; simp at hk
    exact ⟨b1, o1, b2, o2, rfl, rfl, keepC hW (hc1 k hk), keepC hW (hc2 k hk)⟩
  clear h1 h2
  have kn : ((xs.length : Int) != (xs.length : Int)) = false := by simp
  generalize xs.length = n at *
  go_enter Try.func23, Try.ntmps23
  go_wp2
  go_loopw [5] (fun i wr => ∃ k : Nat, k ≤ n ∧ i = .int .i64 (k : Int) ∧ Hid (Below w.heap.size w wr)) (fun i wr => n - (intOf i).toNat)
  case atStart => exact ⟨0, Nat.zero_le _, rfl, TW.hide (Below.refl _ _)⟩
  case round =>
    obtain ⟨k, hk, rfl, HB⟩ := hrel
    by_cases hlt : k < n
    · obtain ⟨b1, o1, b2, o2, rfl, rfl, x1, x2⟩ := HX.out k wr hlt HB.out
      have hk1 : (k : Int) < (n : Int) := by omega
      have hk0 : (0 : Int) ≤ (k : Int) := by omega
      have kx : (xs.getD k 0 != xs.getD k 0) = false := by simp
      generalize xs.getD k 0 = x at *
      go_wp2
      go_quiet (fail)
      go_wp2
      go_roundw
      case rel => exact ⟨k + 1, hlt, by go_num, TW.hide (below_drewN HB.out _)⟩
      case measure => simp [intOf]; omega
    · have hk1 : ¬ (k : Int) < (n : Int) := by omega
      go_wp2
      go_ret
      exact ⟨rfl, HB.out⟩
set_option maxHeartbeats 8000000 in
theorem systems_same (s : Syst) (pa ra pb rb : Option Addr) (pc rc pd rd : Nat) (w : World) (h1 : SM w s pa ra) (h2 : SM w s pb rb) (hp : s.progs.length ≤ 9223372036854775807) (hl : ∀ p, (s.progs.getD p []).length ≤ 9223372036854775807) (hr : s.rooms.length ≤ 9223372036854775807) :
    Calls Try.prog 13 #[.agg (syC s pa pc ra rc), .agg (syC s pb pd rb rd)] w fun e w' => e = .returned (.bool true) ∧ Below w.heap.size w w' := by
  have HI : Hid (∀ W, Below w.heap.size w W → Calls Try.prog 23 #[.slice ra s.rooms.length rc, .slice rb s.rooms.length rd] W fun e w' => e = .returned (.bool true) ∧ Below W.heap.size W w') := fun W hW => ints_same ra rb rc rd _ W (h1.rm.below hW) (h2.rm.below hW) hr
  have HX : Hid (∀ p, p < s.progs.length → ∃ (b1 o1 b2 o2 : Nat) (A1 A2 : Option Addr) (K1 K2 : Nat) (l : List Ins), pa = some ⟨b1, o1, none⟩ ∧ pb = some ⟨b2, o2, none⟩ ∧ Hid (w.cell? ⟨b1, o1 + p, none⟩ = some (.slice A1 l.length K1)) ∧ Hid (w.cell? ⟨b2, o2 + p, none⟩ = some (.slice A2 l.length K2)) ∧ l.length ≤ 9223372036854775807 ∧ Hid (IR w A1 l) ∧ Hid (IR w A2 l)) := fun p hk => by
    rcases h1.pr with h | ⟨b1, o1, rfl, hc1⟩
    · rw [h] at hk; simp at hk
    rcases h2.pr with h | ⟨b2, o2, rfl, hc2⟩
    · rw [h] at hk; simp at hk
    obtain ⟨A1, K1, x1, y1⟩ := hc1 p hk
    obtain ⟨A2, K2, x2, y2⟩ := hc2 p hk
    exact ⟨b1, o1, b2, o2, A1, A2, K1, K2, _, rfl, rfl, x1, x2, hl p, y1, y2⟩
  have HY : Hid (∀ (A1 A2 : Option Addr) (l : List Ins) k W, IR w A1 l → IR w A2 l → k < l.length → Below w.heap.size w W → ∃ b1 o1 b2 o2 q0 q1 q2 q3, A1 = some ⟨b1, o1, none⟩ ∧ A2 = some ⟨b2, o2, none⟩ ∧ W.cell? ⟨b1, o1 + k * 4, none⟩ = some (.int .i64 q0) ∧ W.cell? ⟨b1, o1 + k * 4 + 1, none⟩ = some (.int .i64 q1) ∧ W.cell? ⟨b1, o1 + k * 4 + 2, none⟩ = some (.int .i64 q2) ∧ W.cell? ⟨b1, o1 + k * 4 + 3, none⟩ = some (.int .i64 q3) ∧ W.cell? ⟨b2, o2 + k * 4, none⟩ = some (.int .i64 q0) ∧ W.cell? ⟨b2, o2 + k * 4 + 1, none⟩ = some (.int .i64 q1) ∧ W.cell? ⟨b2, o2 + k * 4 + 2, none⟩ = some (.int .i64 q2) ∧ W.cell? ⟨b2, o2 + k * 4 + 3, none⟩ = some (.int .i64 q3)) := fun A1 A2 l k W e1 e2 hk hW => by
    rcases e1 with h | ⟨b1, o1, rfl, hc1⟩
    · rw [h] at hk; simp at hk
    rcases e2 with h | ⟨b2, o2, rfl, hc2⟩
    · rw [h] at hk; simp at hk
    obtain ⟨x0, x1, x2, x3⟩ := hc1 k hk
    obtain ⟨y0, y1, y2, y3⟩ := hc2 k hk
    exact ⟨b1, o1, b2, o2, _, _, _, _, rfl, rfl, keepC hW x0, keepC hW x1, keepC hW x2, keepC hW x3, keepC hW y0, keepC hW y1, keepC hW y2, keepC hW y3⟩
  clear h1 h2 hl
  unfold syC
  generalize s.rooms.length = M at *
  generalize s.progs.length = N at *
  generalize s.groups = x1 at *
  generalize s.locks = x2 at *
  generalize s.cells = x3 at *
  clear s
  have hA : Below w.heap.size w ((w.alloc (.cells #[.slice pa N pc, .slice ra M rc, .int .i64 x1, .int .i64 x2, .int .i64 x3] 32)).alloc (.cells #[.slice pb N pd, .slice rb M rd, .int .i64 x1, .int .i64 x2, .int .i64 x3] 32)) := ((Below.refl _ _).alloc (Nat.le_refl _) _).alloc (by simp) _
  have N1 : Hid (((w.alloc (.cells #[.slice pa N pc, .slice ra M rc, .int .i64 x1, .int .i64 x2, .int .i64 x3] 32)).alloc (.cells #[.slice pb N pd, .slice rb M rd, .int .i64 x1, .int .i64 x2, .int .i64 x3] 32)).heap[w.heap.size]? = some (.cells #[.slice pa N pc, .slice ra M rc, .int .i64 x1, .int .i64 x2, .int .i64 x3] 32 (0, 0))) := blk_alloc (heap_alloc_new w _)
  have N2 : Hid (((w.alloc (.cells #[.slice pa N pc, .slice ra M rc, .int .i64 x1, .int .i64 x2, .int .i64 x3] 32)).alloc (.cells #[.slice pb N pd, .slice rb M rd, .int .i64 x1, .int .i64 x2, .int .i64 x3] 32)).heap[w.heap.size + 1]? = some (.cells #[.slice pb N pd, .slice rb M rd, .int .i64 x1, .int .i64 x2, .int .i64 x3] 32 (0, 0))) := by
    have h1 := heap_alloc_new (w.alloc (.cells #[.slice pa N pc, .slice ra M rc, .int .i64 x1, .int .i64 x2, .int .i64 x3] 32)) (.cells #[.slice pb N pd, .slice rb M rd, .int .i64 x1, .int .i64 x2, .int .i64 x3] 32)
    have h2 : (w.alloc (.cells #[.slice pa N pc, .slice ra M rc, .int .i64 x1, .int .i64 x2, .int .i64 x3] 32)).heap.size = w.heap.size + 1 := by simp
    rw [h2] at h1
    exact h1
  have HBV := TW.hide hA
  clear hA
  have k1 : (x1 != x1) = false := by simp
  have k2 : (x2 != x2) = false := by simp
  have k3 : (x3 != x3) = false := by simp
  have k4 : ((N : Int) != (N : Int)) = false := by simp
  go_enter Try.func13, Try.ntmps13
  refine wp_seq_k fun K hK => ?_
  have HK := TW.hide hK
  clear hK
  go_wp2
  refine HK.out _ _ ?_
  clear HK K
  generalize World.alloc _ _ = V at *
  generalize w.heap.size + 1 = b2_ at *
  obtain ⟨s0, s1, s2, s3, s4⟩ := cellsY5 N1.out
  obtain ⟨t0, t1, t2, t3, t4⟩ := cellsY5 N2.out
  go_wp2_with fail
  refine (HI.out _ HBV.out).mono ?_
  rintro e1 w1 ⟨rfl, hb⟩
  have HB1 : Hid (Below w.heap.size w w1) := HBV.out.trans (hb.mono HBV.out.size)
  have N1_ := TW.hide (blk_keep N1.out hb)
  have N2_ := TW.hide (blk_keep N2.out hb)
  clear s0 s1 s2 s3 s4 t0 t1 t2 t3 t4 hb HBV N1 N2
  obtain ⟨s0, s1, s2, s3, s4⟩ := cellsY5 N1_.out
  obtain ⟨t0, t1, t2, t3, t4⟩ := cellsY5 N2_.out
  go_wp2
  clear s1 s2 s3 s4 t1 t2 t3 t4 k1 k2 k3 HI
  go_loopw [5] (fun i wr => ∃ k : Nat, k ≤ N ∧ i = .int .i64 (k : Int) ∧ Hid (Below w1.heap.size w1 wr)) (fun i wr => N - (intOf i).toNat)
  case atStart => exact ⟨0, Nat.zero_le _, rfl, TW.hide (Below.refl _ _)⟩
  case round =>
    obtain ⟨p, hk, rfl, HB⟩ := hrel
    have HS0 := TW.hide s0
    have HT0 := TW.hide t0
    clear s0 t0
    have s0 := keepC HB.out HS0.out
    have t0 := keepC HB.out HT0.out
    by_cases hlt : p < N
    · obtain ⟨b1, o1, b2, o2, A1, A2, K1, K2, l, rfl, rfl, z1, z2, hl, I1, I2⟩ := HX.out p hlt
      have hW := HB1.out.trans (HB.out.mono HB1.out.size)
      have Z1 := z1
      have Z2 := z2
      clear z1 z2
      have z1 := keepC hW Z1.out
      have z2 := keepC hW Z2.out
      clear hW
      have hk1 : (p : Int) < (N : Int) := by omega
      have hk0 : (0 : Int) ≤ (p : Int) := by omega
      have k5 : ((l.length : Int) != (l.length : Int)) = false := by simp
      have HZ : Hid (∀ k W, k < l.length → Below w.heap.size w W → _) := fun k W h1 h2 => HY.out A1 A2 l k W I1.out I2.out h1 h2
      generalize l.length = n at *
      go_wp2
      go_quiet (fail)
      go_wp2
      clear s0 t0 z1 z2 k5
      go_loopw [6] (fun j wv => ∃ k : Nat, k ≤ n ∧ j = .int .i64 (k : Int) ∧ Hid (Below w1.heap.size w1 wv)) (fun j wv => n - (intOf j).toNat)
      case atStart => exact ⟨0, Nat.zero_le _, rfl, TW.hide (below_drewN HB.out _)⟩
      case round =>
        obtain ⟨k, hkn, rfl, HB2⟩ := hrel
        have s0 := keepC HB2.out HS0.out
        have t0 := keepC HB2.out HT0.out
        have hW := HB1.out.trans (HB2.out.mono HB1.out.size)
        have z1 := keepC hW Z1.out
        have z2 := keepC hW Z2.out
        have HW := TW.hide hW
        clear hW
        by_cases hkl : k < n
        · obtain ⟨a1, p1, a2, p2, q0, q1, q2, q3, rfl, rfl, x0, y0, x1_, y1_, x2_, y2_, x3_, y3_⟩ := HZ.out k _ hkl HW.out
          have hj1 : (k : Int) < (n : Int) := by omega
          have hj0 : (0 : Int) ≤ (k : Int) := by omega
          go_wp2
          go_quiet (fail)
          go_wp2
          go_roundw
          case rel => exact ⟨k + 1, hkl, by go_num, TW.hide (below_drewN HB2.out _)⟩
          case measure => simp [intOf]; omega
        · have hj1 : ¬ (k : Int) < (n : Int) := by omega
          go_wp2
          go_roundw
          case rel => exact ⟨p + 1, hlt, by go_num, TW.hide HB2.out⟩
          case measure => simp [intOf]; omega
    · have hk1 : ¬ (p : Int) < (N : Int) := by omega
      go_wp2
      go_ret
      exact ⟨rfl, HB1.out.trans (HB.out.mono HB1.out.size)⟩
set_option maxHeartbeats 4000000 in
theorem rBound (n a q : Int) (w : World) : Calls Try.prog 10 #[.int .i64 n, .agg #[.int .i64 a, .int .i64 q]] w fun e w' => e = .returned (.tuple #[.int .i64 (bd n a q), .int .i64 (ft n a q)]) ∧ Below w.heap.size w w' := by
  have n0 := heap_alloc_new w (.cells #[.int .i64 a, .int .i64 q] 23)
  have hb := (Below.refl w.heap.size w).alloc (Nat.le_refl _) (.cells #[.int .i64 a, .int .i64 q] 23)
  obtain ⟨c0, c1⟩ := cells2 n0
  unfold bd
  have HV : Hid (∀ W, Calls Try.prog 8 #[.int .i64 n, .agg #[.int .i64 a, .int .i64 q]] W fun e w' => (∃ (v0 : Option Addr) (v01 v02 : Nat) (v1 : Option Addr) (v11 v12 : Nat) (v2 v3 v4 : Int), e = .returned (.tuple #[.agg #[.slice v0 v01 v02, .slice v1 v11 v12, .int .i64 v2, .int .i64 v3, .int .i64 v4], .int .i64 (ft n a q)])) ∧ Below W.heap.size W w') := fun W => (rSystem n a q W).mono (by
    rintro e w' ⟨⟨pa, pc, ra, rc, rfl, _⟩, hb⟩
    exact ⟨⟨pa, _, pc, ra, _, rc, _, _, _, rfl⟩, hb⟩)
  have HU : Hid (ft n a q = 0 → ∀ W, Calls Try.prog 6 #[.agg #[.int .i64 a, .int .i64 q]] W fun e w' => e = .returned (.tuple #[.int .i64 (bu a q), .int .i64 0]) ∧ Below W.heap.size W w') := fun h W => by
    have h1 := rBuffers a q W
    rw [(ft0 h).1] at h1
    simpa using h1
  have HI := TW.hide (fun h => (⟨(@ft0 n a q h).2, vp0 (@ft0 n a q h).1, bu_le (@ft0 n a q h).1⟩ : _ ∧ _ ∧ _))
  have HN := TW.hide n0
  have HB := TW.hide hb
  generalize ft n a q = v at *
  generalize bu a q = u at *
  clear n0 hb
  go_enter Try.func10, Try.ntmps10
  go_wp2_with fail
  refine (HV.out _).mono ?_
  rintro e1 w1 ⟨⟨v0, v01, v02, v1, v11, v12, v2, v3, v4, rfl⟩, hb1⟩
  have hX := HB.out.trans (hb1.mono (by simp))
  have N2 := TW.hide (blk_keep HN.out hb1)
  have N3 := TW.hide (heap_alloc_new w1 (.cells #[.slice none 0 0, .slice none 0 0, .int .i64 0, .int .i64 0, .int .i64 0] 32))
  have N2 := TW.hide (blk_alloc (o' := .cells #[.slice none 0 0, .slice none 0 0, .int .i64 0, .int .i64 0, .int .i64 0] 32) N2.out)
  have HX := TW.hide (hX.alloc hX.size (.cells #[.slice none 0 0, .slice none 0 0, .int .i64 0, .int .i64 0, .int .i64 0] 32))
  have hsz : w.heap.size < w1.heap.size := blk_lt (blk_keep HN.out hb1)
  have HX := TW.hide (below_setRow (g := w1.heap.size) (cs := #[.slice v0 v01 v02, .slice v1 v11 v12, .int .i64 v2, .int .i64 v3, .int .i64 v4]) HX.out hX.size)
  have N2 := TW.hide ((setRow_other _ w1.heap.size w.heap.size #[.slice v0 v01 v02, .slice v1 v11 v12, .int .i64 v2, .int .i64 v3, .int .i64 v4] (by omega)).trans N2.out)
  clear HN HB hb1 hX c0 c1 HV hsz
  by_cases h : v = 0
  · subst h
    obtain ⟨i1, i2, i3⟩ := HI.out (by first | rfl | trivial)
    have r0 : IntKind.i64.wrap (8 * a) = 8 * a := by rw [IntKind.wrap_i64]; omega
    have r1 : IntKind.i64.wrap (23 + 8 * a) = 23 + 8 * a := by rw [IntKind.wrap_i64]; omega
    have r2 : IntKind.i64.wrap (4 * u) = 4 * u := by rw [IntKind.wrap_i64]; omega
    have r3 : IntKind.i64.wrap (23 + 8 * a + 4 * u) = 23 + 8 * a + 4 * u := by rw [IntKind.wrap_i64]; omega
    have r4 : IntKind.i64.wrap (15 * n) = 15 * n := by rw [IntKind.wrap_i64]; omega
    have r5 : IntKind.i64.wrap (23 + 8 * a + 4 * u + 15 * n) = 23 + 8 * a + 4 * u + 15 * n := by rw [IntKind.wrap_i64]; omega
    clear i1 i2 i3
    have HU2 := TW.hide (HU.out (by first | rfl | trivial))
    clear HU
    go_wp2_with (refine wpList_store_row (by rfl) 32 _ _ (by rfl) w1.heap.size #[.slice v0 v01 v02, .slice v1 v11 v12, .int .i64 v2, .int .i64 v3, .int .i64 v4] (by rfl) (by rfl) 32 _ N3.out (by kernel_rfl) (by rfl) (by simp [Value.oneCell']) ?_; generalize World.setRow _ _ _ = X at *; obtain ⟨c0, c1⟩ := cells2 N2.out)
    refine (HU2.out _).mono ?_
    rintro e2 w2 ⟨rfl, hb2⟩
    have HY := TW.hide (HX.out.trans (hb2.mono HX.out.size))
    clear c0 c1
    obtain ⟨c0, c1⟩ := cells2 (blk_keep N2.out hb2)
    clear hb2
    go_wp2
    go_ret2
    exact ⟨by first | rfl | simp, HY.out⟩
  · go_wp2_with (refine wpList_store_row (by rfl) 32 _ _ (by rfl) w1.heap.size #[.slice v0 v01 v02, .slice v1 v11 v12, .int .i64 v2, .int .i64 v3, .int .i64 v4] (by rfl) (by rfl) 32 _ N3.out (by kernel_rfl) (by rfl) (by simp [Value.oneCell']) ?_; generalize World.setRow _ _ _ = X at *; obtain ⟨c0, c1⟩ := cells2 N2.out)
    go_ret2
    exact ⟨by simp [h], HX.out⟩
end LW
end Go.Proofs.Ytlmnllgcoikkmaa
