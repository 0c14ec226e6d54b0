/-
  What the call UnHex (the document) gives: the bytes, a place, an error.
-/
import Derived.Test.YtbjelenmnlmodabUnHex
namespace Go.Proofs.Ytbjelenmnlmodab
open Go.RowKit
set_option linter.unusedVariables false
namespace LW
open Words Txt
attribute [local go_sem ↓] Go.wp_at_zero Go.wp_at_succ
set_option maxRecDepth 100000 in
set_option maxHeartbeats 3200000 in
theorem runhex (s : ByteArray) (w : World) (hs : s.size ≤ 8388608) :
    Calls Try.prog 16 #[.string s] w fun e w' => ∃ v, e = .returned (.tuple #[v, .int .i64 (hexAt (sb s)), .int .i64 (hexE (sb s))]) ∧
      w'.ownsRow w.heap.size 5 1 v (hexB (sb s)).length (vs (hexB (sb s))) ∧ Below w.heap.size w w' := by
  obtain ⟨i0, hi, hz0, hz1, hz2⟩ := info_parts info5
  have hbt := sb_byt s
  have hix := fun k h => index_s s k h hs
  have hlen := sb_length s
  have hspec := bad_spec hw (sb s)
  have hno := @hexOk_no (sb s)
  have hyes := @hexOk_yes (sb s)
  have hu := uh_length (sb s)
  have hut := uh_take (sb s)
  have hB : hexB (sb s) = if hexOk (sb s) then uh (sb s) else [] := rfl
  have hA : hexAt (sb s) = if hexOk (sb s) then 0 else (bad hw (sb s) : Int) := rfl
  have hE : hexE (sb s) = if hexOk (sb s) then 0 else 4 := rfl
  generalize sb s = l at *
  generalize hsz : s.size = n at *
  rw [hlen] at hspec hno hyes hu
  have HB := TW.hide hbt
  have HI := TW.hide hix
  have HL := TW.hide hlen
  have HS := TW.hide hspec
  have HNO := TW.hide hno
  have HYES := TW.hide hyes
  have HU := TW.hide hu
  have HUT := TW.hide hut
  have HHB := TW.hide hB
  have HHA := TW.hide hA
  have HHE := TW.hide hE
  clear hbt hix hlen hspec hno hyes hu hut hB hA hE
  go_enter Try.func16, Try.ntmps16
  go_wp2
  go_loop [5] (fun i => ∃ k : Nat, k ≤ n ∧ i = .int .i64 k ∧ ∀ j, j < k → hw (l.getD j 0) ≠ -1) (fun i => n - (intOf i).toNat)
  case atStart => exact ⟨0, Nat.zero_le _, rfl, fun j h => absurd h (Nat.not_lt_zero _)⟩
  case round =>
    obtain ⟨k, hk, rfl, hall⟩ := hrel
    have HA := TW.hide hall
    clear hall
    by_cases hlt : k < n
    · have hi1 := HI.out k hlt
      have hb := HB.out.get k
      have hsp := HS.out k (by omega) HA.out
      have hfc := fun W => digitOf (l.getD k 0) W hb.1 hb.2
      have hstep : ∀ j, j < k + 1 → hw (l.getD k 0) ≠ -1 → hw (l.getD j 0) ≠ -1 := by
        intro j hj hg
        rcases Nat.lt_or_eq_of_le (Nat.lt_succ_iff.1 hj) with h' | rfl
        · exact HA.out j h'
        · exact hg
      have hbd := hw_bd (l.getD k 0)
      generalize l.getD k 0 = c at *
      generalize hgc : hw c = v at *
      have HFC := TW.hide hfc
      have HSP := TW.hide hsp
      have HST := TW.hide hstep
      clear hfc hsp hstep hgc
      by_cases hv : v < 0
      · go_wp2_with fail
        refine (HFC.out _).mono ?_
        rintro e w' ⟨rfl, rfl⟩
        go_wp2_with fail
        go_ret3
        have hbad := HSP.out (fun _ => by omega)
        have h1 := HNO.out (by omega)
        rw [HHB.out, HHA.out, HHE.out, h1, hbad]
        exact ⟨_, rfl, World.ownsRow_nil _ _ _ _, Below.refl _ _⟩
      · go_wp2_with fail
        refine (HFC.out _).mono ?_
        rintro e w' ⟨rfl, rfl⟩
        go_wp2_with fail
        go_round
        case rel => exact ⟨k + 1, by omega, by go_num, fun j hj => HST.out j hj (by omega)⟩
        case measure => simp [intOf]; omega
    · obtain rfl : k = n := by omega
      have hbad := HS.out k (by omega) HA.out (fun h => absurd h (by omega))
      by_cases h2 : k % 2 = 0
      · have htest : ((k : Int) % 2 == 1) = false := by simp; omega
        have HY1 := TW.hide (HYES.out hbad h2)
        clear hbad
        obtain ⟨m, hm⟩ : ∃ m, k = 2 * m := ⟨k / 2, by omega⟩
        have hum : (uh l).length = m := by rw [HU.out]; omega
        have HUM := TW.hide hum
        clear hum
        go_wp2
        go_loopw [6, 7] (fun b i wr => ∃ q : Nat, q ≤ m ∧ i = .int .i64 (2 * (q : Int)) ∧ wr.ownsRow w.heap.size 5 1 b q (vs (uh (l.take (2 * q)))) ∧ Below w.heap.size w wr) (fun _ i _ => 2 * m - (intOf i).toNat)
        case atStart => exact ⟨0, Nat.zero_le _, rfl, World.ownsRow_nil _ _ _ _, Below.refl _ _⟩
        case round =>
          obtain ⟨q, hq, rfl, hown, hbel⟩ := hrel
          by_cases hqm : q < m
          · have i1 : ∀ W, (Instr.index 9 (.string s) (.int .i64 (2 * (q : Int)))).run Try.prog W = .ok (.int .u8 (l.getD (2 * q) 0)) W := by
              rw [show (2 * (q : Int)) = ((2 * q : Nat) : Int) by omega]; exact HI.out _ (by omega)
            have i2 : ∀ W, (Instr.index 9 (.string s) (.int .i64 (2 * (q : Int) + 1))).run Try.prog W = .ok (.int .u8 (l.getD (2 * q + 1) 0)) W := by
              rw [show (2 * (q : Int) + 1) = ((2 * q + 1 : Nat) : Int) by omega]; exact HI.out _ (by omega)
            have b1 := HB.out.get (2 * q)
            have b2 := HB.out.get (2 * q + 1)
            have g1 := HA.out (2 * q) (by omega)
            have g2 := HA.out (2 * q + 1) (by omega)
            have hut := HUT.out q (by rw [HL.out]; omega)
            generalize l.getD (2 * q) 0 = a1 at *
            generalize l.getD (2 * q + 1) 0 = a2 at *
            have c1 := fun W => digitOf a1 W b1.1 b1.2
            have c2 := fun W => digitOf a2 W b2.1 b2.2
            have d1 := hw_bd a1
            have d2 := hw_bd a2
            generalize hw a1 = x at *
            generalize hw a2 = y at *
            have x0 : 0 ≤ x := by omega
            have x1 : x ≤ 15 := by omega
            have y0 : 0 ≤ y := by omega
            have y1 : y ≤ 15 := by omega
            have C1 := TW.hide c1
            have C2 := TW.hide c2
            have HUT2 := TW.hide hut
            have HOW := TW.hide hown
            have HBEL := TW.hide hbel
            have hsz := hbel.size
            clear c1 c2 g1 g2 d1 d2 b1 b2 hut hown hbel
            have hk2 : (0 : Int) ≤ 2 * (q : Int) := by omega
            have hk3 : 2 * (q : Int) < 2 * (m : Int) := by omega
            have hk4 : (0 : Int) ≤ 2 * (q : Int) + 1 := by omega
            have hk5 : 2 * (q : Int) + 1 < 2 * (m : Int) := by omega
            have wr1 : IntKind.i64.wrap (2 * (q : Int)) = 2 * (q : Int) := by rw [IntKind.wrap_i64]; omega
            have wr2 : IntKind.i64.wrap (2 * (q : Int) + 1) = 2 * (q : Int) + 1 := by rw [IntKind.wrap_i64]; omega
            have wr3 : IntKind.i64.wrap (16 * x) = 16 * x := by rw [IntKind.wrap_i64]; omega
            have wr5 : IntKind.i64.wrap (16 * x + y) = 16 * x + y := by rw [IntKind.wrap_i64]; omega
            have wr4 : IntKind.u8.wrap (16 * x + y) = 16 * x + y := by rw [IntKind.wrap_u8']; omega
            have H63 : Hid (q + 1 ≤ maxLen) := by show q + 1 ≤ maxLen; unfold maxLen; omega
            have H47 : Hid ((q + 1) * 1 ≤ 140737488355328) := by show (q + 1) * 1 ≤ 140737488355328; omega
            go_wp2_with fail
            go_region_held3 (fun _ => True) (trivial)
              (first | (go_at_call_of 28 a1; refine (C1.out _).mono ?_; rintro e w' ⟨rfl, rfl⟩) | (go_at_call_of 28 a2; refine (C2.out _).mono ?_; rintro e w' ⟨rfl, rfl⟩) | (refine step_append_lies _ (by rfl) _ _ _ (by rfl) w.heap.size 5 i0 _ 1 1 Try.underlying22 hi hz0 hz1 hz2 rfl (by omega) u6 q (vs (uh (l.take (2 * q)))) (by rfl) ((HOW.out.alloc _).drew) ⟨wr.heap.size, 0, none⟩ 1 1 [.int .u8 (16 * x + y)] (by rfl) (by rfl) (World.news_of_block (cs := #[.int .u8 (16 * x + y)]) (t := 5) (fr := (0, 0)) (heap_alloc_new wr _)) (by simp [Value.oneCell']) (by omega) H63.out H47.out (by simp; omega) (wr.heap.size + 1) (by simp) ?_; intro gg cap' w2 hown1 hgrow hat hlt2))
            all_goals
              have hB2 : Below w.heap.size w w2 := ((HBEL.out.alloc hsz _).drew).grown hgrow (by simp; omega) (own_block HOW.out)
              have K1 := TW.hide hown1
              have K2 := TW.hide hB2
              clear hown1 hgrow hat hB2
              go_wp2
              go_roundw
              case rel => exact ⟨q + 1, by omega, by go_num, by rw [HUT2.out, vs_append]; exact K1.out, K2.out⟩
              case measure => simp [intOf]; omega
          · obtain rfl : q = m := by omega
            have HOW := TW.hide hown
            have HBEL := TW.hide hbel
            clear hown hbel
            go_wp2
            go_ret3
            have h3 := HOW.out
            rw [List.take_of_length_le (by rw [HL.out]; omega)] at h3
            rw [HHB.out, HHA.out, HHE.out, HY1.out]
            simp only [if_true]
            rw [HUM.out]
            exact ⟨_, rfl, h3, HBEL.out⟩
      · have htest : ((k : Int) % 2 == 1) = true := by simp; omega
        have HN1 := TW.hide (HNO.out (by omega))
        have HBAD := TW.hide hbad
        clear hbad
        go_wp2
        go_ret3
        rw [HHB.out, HHA.out, HHE.out, HN1.out, HBAD.out]
        exact ⟨_, rfl, World.ownsRow_nil _ _ _ _, Below.refl _ _⟩
end LW
end Go.Proofs.Ytbjelenmnlmodab
