/-
  One step over four words: Blend, the program's and the document's.
-/
import Derived.Test.YtkgemkfajkcgcaaDoorArr
namespace Go.Proofs.YtkgemkfajkcgcaaDoor
open Go.RowKit
set_option linter.unusedVariables false
set_option linter.unusedSimpArgs false
set_option maxRecDepth 100000
namespace LW
open Turn
/-- The sum of two words and of twice the product of their low halves. -/
def jn (a b : Int) : Int := IntKind.u64.wrap (IntKind.u64.wrap (a + b) + IntKind.u64.wrap (IntKind.u64.wrap (2 * (a % 4294967296)) * (b % 4294967296)))
def xo (a b : Int) : Int := bits .xor .u64 a b
theorem jn_bd (a b : Int) : W (jn a b) := by
  unfold jn W
  rw [IntKind.wrap_u64 (IntKind.u64.wrap (a + b) + _)]
  omega
theorem xo_bd (a b : Int) : W (xo a b) := xor64_bd a b
theorem T_bd (a n : Int) : W (T64 a n) := T64_bd a n
/-- What becomes of four words by one step. -/
def blL (a b c d : Int) : Int × Int × Int × Int :=
  let a1 := jn a b
  let d1 := T64 (xo d a1) 32
  let c1 := jn c d1
  let b1 := T64 (xo b c1) 24
  let a2 := jn a1 b1
  let d2 := T64 (xo d1 a2) 16
  let c2 := jn c1 d2
  let b2 := T64 (xo b1 c2) 63
  (a2, b2, c2, d2)
theorem blL_bd (a b c d : Int) : W (blL a b c d).1 ∧ W (blL a b c d).2.1 ∧ W (blL a b c d).2.2.1 ∧ W (blL a b c d).2.2.2 := ⟨jn_bd _ _, T_bd _ _, jn_bd _ _, T_bd _ _⟩
theorem low64 (a : Int) (w : World) (ha : W a) : Calls Tryd.prog 34 #[.int .u64 a] w fun e w' => e = .returned (.int .u64 (a % 4294967296)) ∧ w = w' := by
  obtain ⟨h0, h1⟩ := ha
  have e1 : IntKind.u32.wrap a = a % 4294967296 := by rw [IntKind.wrap_u32']
  have e2 : IntKind.u64.wrap (a % 4294967296) = a % 4294967296 := by rw [IntKind.wrap_u64]; omega
  go_enter Tryd.func34, Tryd.ntmps34
  go_wp2
  go_ret
  exact ⟨rfl, rfl⟩
theorem rlow (a b : Int) (w : World) (ha : W a) (hb : W b) : Calls Tryd.prog 22 #[.int .u64 a, .int .u64 b] w fun e w' => e = .returned (.int .u64 (IntKind.u64.wrap (IntKind.u64.wrap (2 * (a % 4294967296)) * (b % 4294967296)))) ∧ w = w' := by
  have e1 : a.tmod 4294967296 = a % 4294967296 := Int.tmod_eq_emod_of_nonneg ha.1
  have e2 : b.tmod 4294967296 = b % 4294967296 := Int.tmod_eq_emod_of_nonneg hb.1
  obtain ⟨m, hm⟩ : ∃ m, IntKind.u64.wrap (2 * (a % 4294967296)) = m := ⟨_, rfl⟩
  obtain ⟨n, hn⟩ : ∃ n, IntKind.u64.wrap (m * (b % 4294967296)) = n := ⟨_, rfl⟩
  rw [hm, hn]
  have k1 : a % 4294967296 < 4294967296 := by omega
  have k2 : b % 4294967296 < 4294967296 := by omega
  have k3 : (0 : Int) ≤ a % 4294967296 := by omega
  have k4 : (0 : Int) ≤ b % 4294967296 := by omega
  have h0 : a.tmod 4294967296 = a.tmod 4294967296 := rfl
  go_enter Tryd.func22, Tryd.ntmps22
  go_wp2
  go_ret
  exact ⟨rfl, rfl⟩
theorem joined (a b : Int) (w : World) (ha : W a) (hb : W b) : Calls Tryd.prog 20 #[.int .u64 a, .int .u64 b] w fun e w' => e = .returned (.int .u64 (jn a b)) ∧ w = w' := by
  have HA := TW.hide (fun W => low64 a W ha)
  have HB := TW.hide (fun W => low64 b W hb)
  unfold jn
  generalize a % 4294967296 = la at *
  generalize b % 4294967296 = lb at *
  obtain ⟨s, hs⟩ : ∃ s, IntKind.u64.wrap (a + b) = s := ⟨_, rfl⟩
  obtain ⟨m, hm⟩ : ∃ m, IntKind.u64.wrap (2 * la) = m := ⟨_, rfl⟩
  obtain ⟨n, hn⟩ : ∃ n, IntKind.u64.wrap (m * lb) = n := ⟨_, rfl⟩
  obtain ⟨r, hr⟩ : ∃ r, IntKind.u64.wrap (s + n) = r := ⟨_, rfl⟩
  rw [hs, hm, hn, hr]
  clear ha hb
  go_enter Tryd.func20, Tryd.ntmps20
  go_wp2_with fail
  refine (HA.out _).mono ?_
  rintro e w' ⟨rfl, rfl⟩
  go_wp2_with fail
  refine (HB.out _).mono ?_
  rintro e w' ⟨rfl, rfl⟩
  go_wp2_with fail
  go_ret
  exact ⟨rfl, rfl⟩
set_option maxHeartbeats 2000000 in
theorem blend (a b c d : Int) (w : World) (ha : W a) (hb : W b) (hc : W c) (hd : W d) :
    Calls Tryd.prog 6 #[.int .u64 a, .int .u64 b, .int .u64 c, .int .u64 d] w fun e w' =>
      e = .returned (.tuple #[.int .u64 (blL a b c d).1, .int .u64 (blL a b c d).2.1, .int .u64 (blL a b c d).2.2.1, .int .u64 (blL a b c d).2.2.2]) ∧ w = w' := by
  obtain ⟨a1, h1⟩ : ∃ z, jn a b = z := ⟨_, rfl⟩
  obtain ⟨u1, k1⟩ : ∃ z, xo d a1 = z := ⟨_, rfl⟩
  obtain ⟨d1, h2⟩ : ∃ z, T64 u1 32 = z := ⟨_, rfl⟩
  obtain ⟨c1, h3⟩ : ∃ z, jn c d1 = z := ⟨_, rfl⟩
  obtain ⟨u2, k2⟩ : ∃ z, xo b c1 = z := ⟨_, rfl⟩
  obtain ⟨b1, h4⟩ : ∃ z, T64 u2 24 = z := ⟨_, rfl⟩
  obtain ⟨a2, h5⟩ : ∃ z, jn a1 b1 = z := ⟨_, rfl⟩
  obtain ⟨u3, k3⟩ : ∃ z, xo d1 a2 = z := ⟨_, rfl⟩
  obtain ⟨d2, h6⟩ : ∃ z, T64 u3 16 = z := ⟨_, rfl⟩
  obtain ⟨c2, h7⟩ : ∃ z, jn c1 d2 = z := ⟨_, rfl⟩
  obtain ⟨u4, k4⟩ : ∃ z, xo b1 c2 = z := ⟨_, rfl⟩
  obtain ⟨b2, h8⟩ : ∃ z, T64 u4 63 = z := ⟨_, rfl⟩
  have hm : blL a b c d = (a2, b2, c2, d2) := by
    simp only [blL, h1, k1, h2, h3, k2, h4, h5, k3, h6, h7, k4, h8]
  rw [hm]
  have e1 : W a1 := h1 ▸ jn_bd _ _
  have f1 : W u1 := k1 ▸ xo_bd _ _
  have e2 : W d1 := h2 ▸ T_bd _ _
  have e3 : W c1 := h3 ▸ jn_bd _ _
  have f2 : W u2 := k2 ▸ xo_bd _ _
  have e4 : W b1 := h4 ▸ T_bd _ _
  have e5 : W a2 := h5 ▸ jn_bd _ _
  have f3 : W u3 := k3 ▸ xo_bd _ _
  have e6 : W d2 := h6 ▸ T_bd _ _
  have e7 : W c2 := h7 ▸ jn_bd _ _
  have f4 : W u4 := k4 ▸ xo_bd _ _
  unfold xo at k1 k2 k3 k4
  have T1 := TW.hide (fun W => TW.turn64 u1 32 W f1.1 f1.2)
  rw [h2] at T1
  have T2 := TW.hide (fun W => TW.turn64 u2 24 W f2.1 f2.2)
  rw [h4] at T2
  have T3 := TW.hide (fun W => TW.turn64 u3 16 W f3.1 f3.2)
  rw [h6] at T3
  have T4 := TW.hide (fun W => TW.turn64 u4 63 W f4.1 f4.2)
  rw [h8] at T4
  have J1 := TW.hide (fun W => joined a b W ha hb)
  have J2 := TW.hide (fun W => joined c d1 W hc e2)
  have J3 := TW.hide (fun W => joined a1 b1 W e1 e4)
  have J4 := TW.hide (fun W => joined c1 d2 W e3 e6)
  rw [h1] at J1; rw [h3] at J2; rw [h5] at J3; rw [h7] at J4
  clear h1 h2 h3 h4 h5 h6 h7 h8 hm e1 e2 e3 e4 e5 e6 e7 f1 f2 f3 f4 ha hb hc hd
  go_enter Tryd.func6, Tryd.ntmps6
  go_wp2_with fail
  refine (J1.out _).mono ?_
  rintro e w' ⟨rfl, rfl⟩
  go_wp2_with fail
  refine (T1.out _).mono ?_
  rintro e w' ⟨rfl, rfl⟩
  go_wp2_with fail
  refine (J2.out _).mono ?_
  rintro e w' ⟨rfl, rfl⟩
  go_wp2_with fail
  refine (T2.out _).mono ?_
  rintro e w' ⟨rfl, rfl⟩
  go_wp2_with fail
  refine (J3.out _).mono ?_
  rintro e w' ⟨rfl, rfl⟩
  go_wp2_with fail
  refine (T3.out _).mono ?_
  rintro e w' ⟨rfl, rfl⟩
  go_wp2_with fail
  refine (J4.out _).mono ?_
  rintro e w' ⟨rfl, rfl⟩
  go_wp2_with fail
  refine (T4.out _).mono ?_
  rintro e w' ⟨rfl, rfl⟩
  go_wp2_with fail
  exact bodyPost_ret (v := .tuple #[.int .u64 a2, .int .u64 b2, .int .u64 c2, .int .u64 d2]) (by simp [results, Tryd.results6, go_sem] <;> assumption) rfl ⟨rfl, rfl⟩
set_option maxHeartbeats 2000000 in
theorem rblend (a b c d : Int) (w : World) (ha : W a) (hb : W b) (hc : W c) (hd : W d) :
    Calls Tryd.prog 7 #[.int .u64 a, .int .u64 b, .int .u64 c, .int .u64 d] w fun e w' =>
      e = .returned (.agg #[.int .u64 (blL a b c d).1, .int .u64 (blL a b c d).2.1, .int .u64 (blL a b c d).2.2.1, .int .u64 (blL a b c d).2.2.2]) ∧ Below w.heap.size w w' := by
  obtain ⟨a1, h1⟩ : ∃ z, jn a b = z := ⟨_, rfl⟩
  obtain ⟨u1, k1⟩ : ∃ z, xo d a1 = z := ⟨_, rfl⟩
  obtain ⟨d1, h2⟩ : ∃ z, T64 u1 32 = z := ⟨_, rfl⟩
  obtain ⟨c1, h3⟩ : ∃ z, jn c d1 = z := ⟨_, rfl⟩
  obtain ⟨u2, k2⟩ : ∃ z, xo b c1 = z := ⟨_, rfl⟩
  obtain ⟨b1, h4⟩ : ∃ z, T64 u2 24 = z := ⟨_, rfl⟩
  obtain ⟨a2, h5⟩ : ∃ z, jn a1 b1 = z := ⟨_, rfl⟩
  obtain ⟨u3, k3⟩ : ∃ z, xo d1 a2 = z := ⟨_, rfl⟩
  obtain ⟨d2, h6⟩ : ∃ z, T64 u3 16 = z := ⟨_, rfl⟩
  obtain ⟨c2, h7⟩ : ∃ z, jn c1 d2 = z := ⟨_, rfl⟩
  obtain ⟨u4, k4⟩ : ∃ z, xo b1 c2 = z := ⟨_, rfl⟩
  obtain ⟨b2, h8⟩ : ∃ z, T64 u4 63 = z := ⟨_, rfl⟩
  have hm : blL a b c d = (a2, b2, c2, d2) := by
    simp only [blL, h1, k1, h2, h3, k2, h4, h5, k3, h6, h7, k4, h8]
  rw [hm]
  have e1 : W a1 := h1 ▸ jn_bd _ _
  have f1 : W u1 := k1 ▸ xo_bd _ _
  have e2 : W d1 := h2 ▸ T_bd _ _
  have e3 : W c1 := h3 ▸ jn_bd _ _
  have f2 : W u2 := k2 ▸ xo_bd _ _
  have e4 : W b1 := h4 ▸ T_bd _ _
  have e5 : W a2 := h5 ▸ jn_bd _ _
  have f3 : W u3 := k3 ▸ xo_bd _ _
  have e6 : W d2 := h6 ▸ T_bd _ _
  have e7 : W c2 := h7 ▸ jn_bd _ _
  have f4 : W u4 := k4 ▸ xo_bd _ _
  unfold xo at k1 k2 k3 k4
  have T1 := TW.hide (fun W => TW.ref64 u1 32 W f1.1 f1.2)
  rw [h2] at T1
  have T2 := TW.hide (fun W => TW.ref64 u2 24 W f2.1 f2.2)
  rw [h4] at T2
  have T3 := TW.hide (fun W => TW.ref64 u3 16 W f3.1 f3.2)
  rw [h6] at T3
  have T4 := TW.hide (fun W => TW.ref64 u4 63 W f4.1 f4.2)
  rw [h8] at T4
  have J1 := TW.hide (fun W => rlow a b W ha hb)
  have hj1 : jn a b = a1 := h1
  unfold jn at hj1
  generalize IntKind.u64.wrap (IntKind.u64.wrap (2 * (a % 4294967296)) * (b % 4294967296)) = p1 at *
  obtain ⟨s1, hs1⟩ : ∃ s, IntKind.u64.wrap (a + b) = s := ⟨_, rfl⟩
  rw [hs1] at hj1
  have J2 := TW.hide (fun W => rlow c d1 W hc e2)
  have hj2 : jn c d1 = c1 := h3
  unfold jn at hj2
  generalize IntKind.u64.wrap (IntKind.u64.wrap (2 * (c % 4294967296)) * (d1 % 4294967296)) = p2 at *
  obtain ⟨s2, hs2⟩ : ∃ s, IntKind.u64.wrap (c + d1) = s := ⟨_, rfl⟩
  rw [hs2] at hj2
  have J3 := TW.hide (fun W => rlow a1 b1 W e1 e4)
  have hj3 : jn a1 b1 = a2 := h5
  unfold jn at hj3
  generalize IntKind.u64.wrap (IntKind.u64.wrap (2 * (a1 % 4294967296)) * (b1 % 4294967296)) = p3 at *
  obtain ⟨s3, hs3⟩ : ∃ s, IntKind.u64.wrap (a1 + b1) = s := ⟨_, rfl⟩
  rw [hs3] at hj3
  have J4 := TW.hide (fun W => rlow c1 d2 W e3 e6)
  have hj4 : jn c1 d2 = c2 := h7
  unfold jn at hj4
  generalize IntKind.u64.wrap (IntKind.u64.wrap (2 * (c1 % 4294967296)) * (d2 % 4294967296)) = p4 at *
  obtain ⟨s4, hs4⟩ : ∃ s, IntKind.u64.wrap (c1 + d2) = s := ⟨_, rfl⟩
  rw [hs4] at hj4
  clear h1 h2 h3 h4 h5 h6 h7 h8 hm e1 e2 e3 e4 e5 e6 e7 f1 f2 f3 f4 ha hb hc hd
  have NB : Hid (Below w.heap.size w (w.alloc (.cells #[.int .u64 0, .int .u64 0, .int .u64 0, .int .u64 0] 26))) := (Below.refl _ _).alloc (Nat.le_refl _) _
  have N0 : Hid ((w.alloc (.cells #[.int .u64 0, .int .u64 0, .int .u64 0, .int .u64 0] 26)).heap[w.heap.size]? = some (.cells #[.int .u64 0, .int .u64 0, .int .u64 0, .int .u64 0] 26 (0, 0))) := heap_alloc_new w _
  go_enter Tryd.func7, Tryd.ntmps7
  refine wp_seq_k fun K hK => ?_
  have HK := TW.hide hK
  clear hK
  go_wp2
  refine HK.out _ _ ?_
  clear HK K
  generalize World.alloc _ _ = X at *
  go_wp2_with fail
  refine (J1.out _).mono ?_
  rintro e w' ⟨rfl, rfl⟩
  go_wp2_with fail
  refine (T1.out _).mono ?_
  rintro e w' ⟨rfl, ⟨q1, rfl⟩⟩
  have NB1 : Hid (Below w.heap.size w (World.drewN _ q1)) := below_drewN NB.out _
  have N1 : Hid ((World.drewN _ q1).heap[w.heap.size]? = _) := N0.out
  generalize World.drewN _ q1 = X1 at *
  go_wp2_with fail
  refine (J2.out _).mono ?_
  rintro e w' ⟨rfl, rfl⟩
  go_wp2_with fail
  refine (T2.out _).mono ?_
  rintro e w' ⟨rfl, ⟨q2, rfl⟩⟩
  have NB3 : Hid (Below w.heap.size w (World.drewN _ q2)) := below_drewN NB1.out _
  have N3 : Hid ((World.drewN _ q2).heap[w.heap.size]? = _) := N1.out
  generalize World.drewN _ q2 = X2 at *
  go_wp2_with fail
  refine (J3.out _).mono ?_
  rintro e w' ⟨rfl, rfl⟩
  go_wp2_with fail
  refine (T3.out _).mono ?_
  rintro e w' ⟨rfl, ⟨q3, rfl⟩⟩
  have NB5 : Hid (Below w.heap.size w (World.drewN _ q3)) := below_drewN NB3.out _
  have N5 : Hid ((World.drewN _ q3).heap[w.heap.size]? = _) := N3.out
  generalize World.drewN _ q3 = X3 at *
  go_wp2_with fail
  refine (J4.out _).mono ?_
  rintro e w' ⟨rfl, rfl⟩
  go_wp2_with fail
  refine (T4.out _).mono ?_
  rintro e w' ⟨rfl, ⟨q4, rfl⟩⟩
  have NB7 : Hid (Below w.heap.size w (World.drewN _ q4)) := below_drewN NB5.out _
  have N7 : Hid ((World.drewN _ q4).heap[w.heap.size]? = _) := N5.out
  generalize World.drewN _ q4 = X4 at *
  have NS : Hid ((X4.setRow w.heap.size #[.int .u64 a2, .int .u64 b2, .int .u64 c2, .int .u64 d2]).heap[w.heap.size]? = some (.cells #[.int .u64 a2, .int .u64 b2, .int .u64 c2, .int .u64 d2] 26 (0, 0))) := setRow_heap _ _ _ _ _ _ N7.out
  have NBS : Hid (Below w.heap.size w (X4.setRow w.heap.size #[.int .u64 a2, .int .u64 b2, .int .u64 c2, .int .u64 d2])) := below_setRow NB7.out (Nat.le_refl _)
  go_wp2_with (first | (refine wpList_store_row (by rfl) 26 _ _ (by rfl) w.heap.size #[.int .u64 a2, .int .u64 b2, .int .u64 c2, .int .u64 d2] (by rfl) (by rfl) 26 _ N7.out (by kernel_rfl) (by rfl) (by simp [Value.oneCell']) ?_; generalize World.setRow _ _ _ = X5 at *) | fail)
  refine bodyPost_ret (v := .agg #[.int .u64 a2, .int .u64 b2, .int .u64 c2, .int .u64 d2]) (results_cell_row (P := Tryd.prog) Tryd.results7 _ _ w.heap.size 26 #[.int .u64 a2, .int .u64 b2, .int .u64 c2, .int .u64 d2] (0, 0) _ (by rfl) NS.out Tryd.underlying26 rfl (by kernel_rfl)) rfl ⟨rfl, NBS.out⟩
end LW
end Go.Proofs.YtkgemkfajkcgcaaDoor
