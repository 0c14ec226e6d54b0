/-
  The walk of LaneBack: it returns true for every kind, message and lanes.
-/
import Derived.Test.YthbakhgfnfdahabSplLaw
import Derived.Test.YthbakhgfnfdahabLJoin
import Derived.Test.YthbakhgfnfdahabSame
namespace Go.Proofs.Ythbakhgfnfdahab
open Go.RowKit Go.ChangeShapes
set_option linter.unusedVariables false
set_option linter.unusedSimpArgs false
namespace LW
open Words
theorem JoR.bd {k : Int} {N : Nat} {ls : Nat → List Int} {E : Int} {zs : List Int} (h : JoR k N ls E zs) (hs : N = nl k → 0 < nl k → sumN (fun r => (ls r).length) N ≤ 1048576) : zs.length ≤ 1048576 := by
  rcases h with ⟨a1, a2, a3⟩ | ⟨a1, a2, a3, a4⟩ | ⟨a1, a2, a3, a4⟩
  · rw [a3]; simp
  · rw [a4]; simp
  · rw [a4, joL_length]; exact hs a2.1 a1
/-- Lanes in rows of the call's own, as slices that lie one behind the other. -/
theorem Lst.mb {w : World} {base g n : Nat} {L : Nat → List Int} {qs : List Value} (h : Lst w base g n L n qs) (hs : sumN (fun r => (L r).length) n ≤ 1048576) : ∃ A K, Mb w g 0 n A K L := by
  have each : ∀ r, r < n → ∃ a c, qs[r]? = some (.slice a (L r).length c) ∧ Row w a (L r) ∧ (L r).length ≤ c ∧ (a = none → c = 0) := fun r hr => by
    obtain ⟨v, hv, ho⟩ := h.2.2 r hr
    obtain ⟨a, c, rfl, hrow, _⟩ := row_of_own ho
    refine ⟨a, c, hv, hrow, ?_, ?_⟩
    · rcases ho.2 with ⟨h1, h2⟩ | ⟨g', cap, cur, h1, _, _, h2, _⟩
      · omega
      · simp only [Value.slice.injEq] at h1
        rw [h1.2.2]; exact h2
    · intro ha
      rcases ho.2 with ⟨h1, h2⟩ | ⟨g', cap, cur, h1, _, _, h2, _⟩
      · simp only [Value.slice.injEq] at h1
        exact h1.2.2
      · rw [ha] at h1
        simp at h1
  refine ⟨fun r => if hr : r < n then Classical.choose (each r hr) else none, fun r => if hr : r < n then Classical.choose (Classical.choose_spec (each r hr)) else 0, ⟨fun r hr => ?_, fun r hr => ?_, fun r hr => ?_, fun r hr => ?_, hs⟩⟩
  all_goals
    simp only [hr, dite_true]
    have hsp := Classical.choose_spec (Classical.choose_spec (each r hr))
  · rw [Nat.zero_add]
    exact (ref_cell h.1 hsp.1).1
  · exact hsp.2.1
  · exact hsp.2.2.1
  · exact hsp.2.2.2
theorem alive (w : World) : Calls Try.prog 4 #[] w fun e w' => e = .returned (.bool true) ∧ Below w.heap.size w w' := by
  have HC := TW.hide (count 2 w)
  rw [show nl 2 = 8 from rfl, show ke 2 = 0 from rfl] at HC
  go_enter Try.func4, Try.ntmps4
  go_wp2_with fail
  refine HC.out.mono ?_
  rintro e w1 ⟨rfl, hb⟩
  have HB := TW.hide hb
  clear hb
  go_wp2
  go_ret
  exact ⟨rfl, HB.out⟩
set_option maxRecDepth 100000 in
set_option maxHeartbeats 2000000 in
theorem backsNo (k : Int) (a : Option Addr) (cap : Nat) (zs : List Int) (al : Option Addr) (N c : Nat) (ls : Nat → List Int) (w : World) (h0 : nl k = 0) (hr : Row w a zs) (hcap : zs.length ≤ cap) (hz : zs.length ≤ 1048576) :
    Calls Try.prog 3 #[.int .i64 k, .slice a zs.length cap, .slice al N c] w fun e w' => e = .returned (.bool true) ∧ Below w.heap.size w w' := by
  have e1 : (k == 1) = false := by
    by_cases h : k = 1
    · rw [h] at h0; simp [nl] at h0
    · simpa using h
  have e2 : (k == 2) = false := by
    by_cases h : k = 2
    · rw [h] at h0; simp [nl] at h0
    · simpa using h
  have C1 := TW.hide (fun W (h : Below w.heap.size w W) => lsplitU k a cap zs W (hr.below h) hcap (by omega))
  have C2 := TW.hide (fun W => ljoinNo k al N c ls W h0)
  have HJ : Hid (∀ E xs, JoR k N ls E xs → E = 1) := fun E xs h => by
    rcases h with ⟨a1, a2, a3⟩ | ⟨a1, a2, a3, a4⟩ | ⟨a1, a2, a3, a4⟩ <;> omega
  generalize zs.length = len at *
  clear h0 hr hcap
  go_enter Try.func3, Try.ntmps3
  go_wp2_with fail
  refine (alive _).mono ?_
  rintro e w1 ⟨rfl, hb1⟩
  have B1 := TW.hide hb1
  clear hb1
  go_wp2_with fail
  refine (C1.out _ B1.out).mono ?_
  rintro e w2 ⟨a2, c2, rfl, _, hb2⟩
  have B2 : Hid (Below w.heap.size w w2) := below_row B1.out hb2 B1.out.size
  clear hb2 B1
  go_wp2_with fail
  refine (C2.out _).mono ?_
  rintro e w3 ⟨E, xs, v, hR, rfl, _, hb3⟩
  obtain rfl := HJ.out E xs hR
  have B3 : Hid (Below w.heap.size w w3) := below_row B2.out hb3 B2.out.size
  clear hb3 B2 hR
  go_wp2
  go_ret
  exact ⟨rfl, B3.out⟩
set_option maxRecDepth 100000 in
set_option maxHeartbeats 4000000 in
theorem backsYes (k : Int) (a : Option Addr) (cap : Nat) (zs : List Int) (al : Option Addr) (N c : Nat) (ls : Nat → List Int) (w : World) (hk : k = 1 ∨ k = 2) (hr : Row w a zs) (hcap : zs.length ≤ cap) (hz : zs.length ≤ 1048576) (hN : N ≤ 1048576) (hM : N = nl k → 0 < nl k → ∃ b off A K, al = some ⟨b, off, none⟩ ∧ Mb w b off N A K ls) :
    Calls Try.prog 3 #[.int .i64 k, .slice a zs.length cap, .slice al N c] w fun e w' => e = .returned (.bool true) ∧ Below w.heap.size w w' := by
  have hKB := kb hk
  have hkk : (k == 1) = true ∨ ((k == 1) = false ∧ (k == 2) = true) := by rcases hk with rfl | rfl <;> simp
  have hn : 0 < nl k ∧ nl k ≤ 8 := by rcases hk with rfl | rfl <;> decide
  have h0 : ke k = 0 := by rcases hk with rfl | rfl <;> rfl
  have hdl := dealt_laL (zs := zs) hKB
  have C1 := TW.hide (fun W (h : Below w.heap.size w W) => lsplit k a cap zs W hk (hr.below h) hcap (by omega))
  -- the lanes of the message, joined
  have C2 : Hid (∀ (W : World) (base g : Nat) (qs : List Value), Lst W base g (nl k) (laL (bb k) zs) (nl k) qs → Calls Try.prog 6 #[.int .i64 k, .slice (some ⟨g, 0, none⟩) (nl k) (nl k)] W fun e w' => ∃ a' c', e = .returned (.tuple #[.slice a' zs.length c', .int .i64 0]) ∧ Row w' a' zs ∧ Below W.heap.size W w') := fun W base g qs hL => by
    obtain ⟨A, K, hMb⟩ := hL.mb (by rw [hdl.1]; exact hz)
    refine (ljoin k (some ⟨g, 0, none⟩) (nl k) (nl k) (laL (bb k) zs) W (by omega) fun _ _ => ⟨g, 0, A, K, rfl, hMb⟩).mono ?_
    rintro e w' ⟨E, xs, v, hR, rfl, ho, hb⟩
    obtain ⟨rfl, rfl⟩ := hR.one (E' := 0) (zs' := zs) (.inr (.inr ⟨hn.1, ⟨rfl, hdl.2⟩, rfl, by rw [hdl.1, joL_laL hKB]⟩))
    obtain ⟨a', c', rfl, hrow, _⟩ := row_of_own ho
    exact ⟨a', c', rfl, hrow, hb⟩
  have C3 : Hid (∀ W : World, Below w.heap.size w W → Calls Try.prog 6 #[.int .i64 k, .slice al N c] W fun e w' => JoP k N ls W e w') := fun W hW => ljoin k al N c ls W hN fun h1 h2 => by
    obtain ⟨b, off, A, K, h3, h4⟩ := hM h1 h2
    exact ⟨b, off, A, K, h3, h4.below hW⟩
  have HMB : Hid (N = nl k → ∃ b off A K, al = some ⟨b, off, none⟩ ∧ ∀ W, Below w.heap.size w W → Mb W b off N A K ls) := fun h => by
    obtain ⟨b, off, A, K, h3, h4⟩ := hM h hn.1
    exact ⟨b, off, A, K, h3, fun W hW => h4.below hW⟩
  -- what can be joined is split into just these lanes
  have C4 : Hid (∀ (E : Int) (xs : List Int) (W : World) (a' : Option Addr) (c' : Nat), JoR k N ls E xs → E = 0 → Row W a' xs → xs.length ≤ c' → N = nl k ∧ Calls Try.prog 5 #[.int .i64 k, .slice a' xs.length c'] W fun e w' => RSp W (nl k) ls e w') := fun E xs W a' c' hR hE hrow hc' => by
    rcases hR with ⟨a1, a2, a3⟩ | ⟨a1, a2, a3, a4⟩ | ⟨a1, a2, a3, a4⟩
    · omega
    · omega
    · refine ⟨a2.1, ?_⟩
      have hxl : xs.length ≤ 1048576 := by
        obtain ⟨b, off, A, K, h3, h4⟩ := hM a2.1 a1
        rw [a4, joL_length]; exact h4.sum
      refine (lsplit k a' c' xs W hk hrow hc' (by omega)).mono ?_
      rintro e w' ⟨g, qs, rfl, hL, hg, hb⟩
      refine ⟨g, qs, rfl, ⟨hL.1, hL.2.1, fun l hl => ?_⟩, hg, hb⟩
      have h1 := hL.2.2 l hl
      rw [a4, a2.1, laL_joL hKB a2.2 hl] at h1
      exact h1
  have HS1 : Hid (∀ (W : World) (a' : Option Addr) (c' : Nat), Row W a' zs → Below w.heap.size w W → Calls Try.prog 7 #[.slice a' zs.length c', .slice a zs.length cap] W fun e w' => e = .returned (.bool true) ∧ ∃ q, w' = W.drewN q) := fun W a' c' h1 h2 => by
    have h := same a' a c' cap zs zs W h1 (hr.below h2) (by unfold maxLen; omega) (by unfold maxLen; omega)
    rw [decide_eq_true rfl] at h
    exact h
  have HS2 : Hid (∀ (i : Nat) (W : World) (x x' : Option Addr) (cx cx' : Nat), (ls i).length ≤ 1048576 → Row W x (ls i) → Row W x' (ls i) → Calls Try.prog 7 #[.slice x (ls i).length cx, .slice x' (ls i).length cx'] W fun e w' => e = .returned (.bool true) ∧ ∃ q, w' = W.drewN q) := fun i W x x' cx cx' h0 h1 h2 => by
    have h := same x x' cx cx' (ls i) (ls i) W h1 h2 (by unfold maxLen; omega) (by unfold maxLen; omega)
    rw [decide_eq_true rfl] at h
    exact h
  clear hM hdl hKB hr
  generalize laL (bb k) zs = L at *
  generalize nl k = n at *
  generalize zs.length = len at *
  obtain ⟨hn0, hn8⟩ := hn
  clear hk h0
  have hnn : ((n : Int) != (n : Int)) = false := by simp
  rcases hkk with hk1 | ⟨hk1, hk2⟩
  all_goals
    go_enter Try.func3, Try.ntmps3
    go_wp2_with fail
    refine (alive _).mono ?_
    rintro e w1 ⟨rfl, hb1⟩
    have B1 := TW.hide hb1
    clear hb1
    go_wp2_with fail
    refine (C1.out _ B1.out).mono ?_
    rintro e w2 ⟨g2, q2, rfl, hl2, hg2, hb2⟩
    have L2 := TW.hide hl2
    have B2 : Hid (Below w.heap.size w w2) := below_row B1.out hb2 B1.out.size
    clear hl2 hb2 B1
    go_wp2_with fail
    refine (C2.out _ _ _ _ L2.out).mono ?_
    rintro e w3 ⟨a3, c3, rfl, hr3, hb3⟩
    have B3 : Hid (Below w.heap.size w w3) := below_row B2.out hb3 B2.out.size
    have S3 := TW.hide (HS1.out w3 a3 c3 hr3 B3.out)
    clear hr3 hb3 B2 L2
    go_wp2_with fail
    refine S3.out.mono ?_
    rintro e w4 ⟨rfl, q4, rfl⟩
    have B4 := TW.hide (below_drewN B3.out q4)
    clear S3 B3
    generalize w3.drewN q4 = W4 at *
    go_wp2_with fail
    refine (C3.out _ B4.out).mono ?_
    rintro e w5 ⟨E, xs, v, hR, rfl, ho, hb5⟩
    have B5 : Hid (Below w.heap.size w w5) := below_row B4.out hb5 B4.out.size
    clear hb5 B4
    obtain ⟨a5, c5, rfl, hr5, _⟩ := row_of_own ho
    have hc5 : xs.length ≤ c5 := by
      rcases ho.2 with ⟨h1, h2⟩ | ⟨g', cap', cur, h1, _, _, h2, _⟩
      · omega
      · simp only [Value.slice.injEq] at h1
        rw [h1.2.2]; exact h2
    by_cases hE : E = 0
    · have hE' : (E != 0) = false := by simp [hE]
      obtain ⟨hNn, hC⟩ := C4.out E xs w5 a5 c5 hR hE hr5 hc5
      have HC := TW.hide hC
      clear hR ho hr5 hE hC hc5
      subst hNn
      generalize xs.length = xl at *
      go_wp2_with fail
      refine HC.out.mono ?_
      rintro e w6 ⟨g6, q6, rfl, hl6, hg6, hb6⟩
      have L6 : Hid (Lnd w6 w5.heap.size (some ⟨g6, 0, none⟩) N ls) := fun _ => ⟨g6, q6, rfl, hl6, hg6⟩
      have B6 : Hid (Below w.heap.size w w6) := below_row B5.out hb6 B5.out.size
      clear hl6 hb6 B5
      obtain ⟨b, off, A, K, rfl, hmb⟩ := HMB.out (by simp)
      have M6 := TW.hide (hmb w6 B6.out)
      clear hmb
      go_wp2
      go_loopw [12] (fun i wr => ∃ (j q : Nat), j ≤ N ∧ i = .int .i64 j ∧ wr = w6.drewN q) (fun i _ => N - (intOf i).toNat)
      case atStart => exact ⟨0, 0, Nat.zero_le _, rfl, rfl⟩
      case round =>
        obtain ⟨j, q, hj, rfl, hwq⟩ := hrel
        have HQ := TW.hide hwq
        have BQ : Hid (Below w6.heap.size w6 wr) := by rw [hwq]; exact below_drewN (Below.refl _ _) q
        clear hwq
        by_cases hlt : j < N
        · have MM := M6.out.below BQ.out
          have hm1 := MM.cell j hlt
          have hm2 := MM.row j hlt
          have hm3 := MM.len hlt
          obtain ⟨gl, a2, c2, hgl, hl1, hl2⟩ := (L6.out.below BQ.out).get hlt
          obtain rfl : gl = g6 := by simpa using hgl.symm
          have SMK := TW.hide (fun X => HS2.out j (wr.drewN X) a2 (A j) c2 (K j) hm3 (hl2.drewN X) (hm2.drewN X))
          have hkI : (0 : Int) ≤ (j : Int) := Int.natCast_nonneg _
          have hkJ : (j : Int) < (N : Int) := by omega
          clear hm2 hl2 hm3 MM hgl
          generalize (ls j).length = ll at *
          go_wp2
          go_quiet ((go_at_call 7; exact Calls.quiet_of (SMK.out _)))
          go_wp2
          go_roundw
          case rel => exact ⟨j + 1, q + nq, by omega, by go_num, by rw [HQ.out, World.drewN_drewN]⟩
          case measure => simp [intOf]; omega
        · have B7 : Hid (Below w.heap.size w wr) := by rw [HQ.out]; exact below_drewN B6.out q
          go_wp2
          go_ret
          exact ⟨rfl, B7.out⟩
    · have hE' : (E != 0) = true := by simp [hE]
      clear hR ho hr5 hE hc5
      generalize xs.length = xl at *
      go_wp2
      go_ret
      exact ⟨rfl, B5.out⟩
end LW
end Go.Proofs.Ythbakhgfnfdahab
