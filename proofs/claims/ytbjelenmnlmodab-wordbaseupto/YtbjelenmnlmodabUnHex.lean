/-
  What the call UnHex (the program) gives: the bytes, a place, an error.
-/
import Derived.Test.YtbjelenmnlmodabDigits
namespace Go.Proofs.Ytbjelenmnlmodab
open Go.RowKit
set_option linter.unusedVariables false
namespace LW
open Words Txt
theorem ret_three {v v' : Value} {a b c d : Int} {k l : IntKind} (h : v = v') (h1 : a = b) (h2 : c = d) : Ending.returned (.tuple #[v, .int k a, .int l c]) = .returned (.tuple #[v', .int k b, .int l d]) := by rw [h, h1, h2]
theorem hexOk_no {l : List Int} (h : ¬ (bad hw l = l.length ∧ l.length % 2 = 0)) : hexOk l = false := by simp [hexOk]; omega
theorem hexOk_yes {l : List Int} (h1 : bad hw l = l.length) (h2 : l.length % 2 = 0) : hexOk l = true := by simp [hexOk, h1, h2]
theorem uh_set (l : List Int) (m k : Nat) (hl : 2 * m ≤ l.length) (h : k < m) : (vs (uh (l.take (2 * k)) ++ List.replicate (m - k) 0)).set k (.int .u8 (16 * hw (l.getD (2 * k) 0) + hw (l.getD (2 * k + 1) 0))) = vs (uh (l.take (2 * (k + 1))) ++ List.replicate (m - (k + 1)) 0) := by
  have e : m - k = m - (k + 1) + 1 := by omega
  have hlen : (uh (l.take (2 * k))).length = k := by rw [uh_length, List.length_take]; omega
  rw [vs_append, List.set_append_right _ _ (by rw [vs_length, hlen]; omega), vs_length, hlen, Nat.sub_self, e, List.replicate_succ]
  rw [uh_take l k (by omega)]
  simp [vs]
/-- A pair of digits, as the program makes a byte of it. -/
theorem pair_or (x y : Int) (hx0 : 0 ≤ x) (hx : x ≤ 15) (hy0 : 0 ≤ y) (hy : y ≤ 15) : bits .or .i64 (x * 16) y = 16 * x + y := by
  obtain ⟨X, rfl⟩ := Int.eq_ofNat_of_zero_le hx0
  obtain ⟨Y, rfl⟩ := Int.eq_ofNat_of_zero_le hy0
  have e : ((X : Int) * 16) = ((X * 2 ^ 4 : Nat) : Int) := by simp
  rw [e]
  show IntKind.i64.wrap ((BitVec.ofInt 64 ((X * 2 ^ 4 : Nat) : Int) ||| BitVec.ofInt 64 (Y : Int)).toNat : Int) = _
  rw [BitVec.toNat_or, ofInt_u64 _ (by omega), ofInt_u64 _ (by omega), nat_join 4 _ _ (by omega) (by omega), IntKind.wrap_i64]
  omega
attribute [local go_sem ↓] Go.wp_at_zero Go.wp_at_succ
set_option maxRecDepth 100000 in
set_option maxHeartbeats 3200000 in
theorem unhex (s : ByteArray) (w : World) (hs : s.size ≤ 8388608) :
    Calls Try.prog 15 #[.string s] w fun e w' => ∃ v, e = .returned (.tuple #[v, .int .i64 (hexAt (sb s)), .int .i64 (hexE (sb s))]) ∧
      w'.ownsRow w.heap.size 5 1 v (hexB (sb s)).length (vs (hexB (sb s))) ∧ Below w.heap.size w w' := by
  obtain ⟨i0, hi, hz0, hz1, hz2⟩ := info_parts info5
  have hst := fun W => stranger27 hw s W hs hexWorth
  have hbt := sb_byt s
  have hix := fun k h => index_s s k h hs
  have hlen := sb_length s
  have hle := bad_le hw (sb s)
  have hbef := bad_before hw (sb s)
  generalize sb s = l at *
  generalize hsz : s.size = n at *
  have HST := TW.hide hst
  have HB := TW.hide hbt
  have HI := TW.hide hix
  have HL := TW.hide hlen
  have HBE := TW.hide hbef
  clear hst hbt hix hbef
  rw [hlen] at hle
  by_cases h1 : bad hw l < n
  · have hno := hexOk_no (l := l) (by omega)
    have e1 : hexB l = [] := by simp [hexB, hno]
    have e2 : hexAt l = bad hw l := by simp [hexAt, hno]
    have e3 : hexE l = 4 := by simp [hexE, hno]
    rw [e1, e2, e3]
    generalize bad hw l = b at *
    have h1I : (b : Int) < (n : Int) := by omega
    clear hlen hno e1 e2 e3
    go_enter Try.func15, Try.ntmps15
    go_wp2_with fail
    refine (HST.out _).mono ?_
    rintro e w' ⟨rfl, rfl⟩
    go_wp2_with fail
    go_ret3
    exact ⟨_, rfl, World.ownsRow_nil _ _ _ _, Below.refl _ _⟩
  · obtain hbn : bad hw l = n := by omega
    rw [hbn] at HST HBE
    by_cases h2 : n % 2 = 0
    · have hyes := hexOk_yes (l := l) (by omega) (by omega)
      have e1 : hexB l = uh l := by simp [hexB, hyes]
      have e2 : hexAt l = 0 := by simp [hexAt, hyes]
      have e3 : hexE l = 0 := by simp [hexE, hyes]
      have hu := uh_length l
      rw [hlen] at hu
      rw [e1, e2, e3, hu]
      have hn2 : ((n : Int) % 2) = 0 := by omega
      have htest : ((n : Int) % 2 != 0) = false := by simp [hn2]
      have HU := TW.hide hu
      clear hlen hyes e1 e2 e3 hu hle hbn h1
      obtain ⟨m, hm⟩ : ∃ m, n / 2 = m := ⟨_, rfl⟩
      rw [hm] at HU ⊢
      have hmI : (n : Int) / 2 = (m : Int) := by omega
      have hnn : n = 2 * m := by omega
      clear hm
      go_enter Try.func15, Try.ntmps15
      go_wp2_with fail
      refine (HST.out _).mono ?_
      rintro e w' ⟨rfl, rfl⟩
      go_wp2_with (at_make; refine wpList_make_full _ rfl _ _ 22 rfl w.heap.size 5 i0 (.int .u8 0) 1 Try.underlying22 hi hz0 hz1 _ _ _ _ m rfl rfl (by omega) (by omega) (by rw [hz2]; omega) (by unfold maxLen; omega) (by omega) ?_; intro w1 hown hgrow)
      have hown1 : w1.ownsRow w.heap.size 5 1 (.slice (some ⟨w.heap.size, 0, none⟩) m m) m (vs (List.replicate m 0)) := by
        rw [← made_vs]; exact hown
      have hbel : Below w.heap.size w w1 := (Below.refl _ _).grown hgrow (Nat.le_refl _) (by intro k h; cases h)
      have H1 := TW.hide hown1
      have H2 := TW.hide hbel
      clear hown hgrow hown1 hbel
      go_loopw [27] (fun i wr => ∃ k : Nat, k ≤ m ∧ i = .int .i64 k ∧ wr.ownsRow w.heap.size 5 1 (.slice (some ⟨w.heap.size, 0, none⟩) m m) m (vs (uh (l.take (2 * k)) ++ List.replicate (m - k) 0)) ∧ Below w.heap.size w wr) (fun i _ => m - (intOf i).toNat)
      case atStart => exact ⟨0, Nat.zero_le _, rfl, by simpa [uh] using H1.out, H2.out⟩
      case round =>
        obtain ⟨k, hk, rfl, hown, hbel⟩ := hrel
        have HO := TW.hide hown
        have HB2 := TW.hide hbel
        clear hown hbel H1 H2
        by_cases hlt : k < m
        · have hc : ∃ z, wr.cell? ⟨w.heap.size, k, none⟩ = some z := by
            rw [HO.out.cellAt k (by omega)]
            exact ⟨_, List.getElem?_eq_getElem (by rw [vs_length]; simp [uh_length]; rw [HL.out]; omega)⟩
          obtain ⟨z, hc⟩ := hc
          have hf := HO.out.frozenAt k
          have hset := uh_set l m k (by rw [HL.out]; omega) hlt
          have i1 : ∀ W, (Instr.index 9 (.string s) (.int .i64 (2 * (k : Int)))).run Try.prog W = .ok (.int .u8 (l.getD (2 * k) 0)) W := by
            rw [show (2 * (k : Int)) = ((2 * k : Nat) : Int) by omega]; exact HI.out _ (by omega)
          have i2 : ∀ W, (Instr.index 9 (.string s) (.int .i64 (2 * (k : Int) + 1))).run Try.prog W = .ok (.int .u8 (l.getD (2 * k + 1) 0)) W := by
            rw [show (2 * (k : Int) + 1) = ((2 * k + 1 : Nat) : Int) by omega]; exact HI.out _ (by omega)
          have b1 := HB.out.get (2 * k)
          have b2 := HB.out.get (2 * k + 1)
          have g1 := HBE.out (2 * k) (by omega)
          have g2 := HBE.out (2 * k + 1) (by omega)
          generalize l.getD (2 * k) 0 = a1 at *
          generalize l.getD (2 * k + 1) 0 = a2 at *
          have c1 := fun W => hexWorth a1 W b1.1 b1.2
          have c2 := fun W => hexWorth a2 W b2.1 b2.2
          have d1 := hw_bd a1
          have d2 := hw_bd a2
          generalize hw a1 = x at *
          generalize hw a2 = y at *
          have x0 : 0 ≤ x := by omega
          have x1 : x ≤ 15 := by omega
          have y0 : 0 ≤ y := by omega
          have y1 : y ≤ 15 := by omega
          have hor := pair_or x y x0 x1 y0 y1
          have C1 := TW.hide c1
          have C2 := TW.hide c2
          have HSET := TW.hide hset
          clear c1 c2 g1 g2 d1 d2 b1 b2 hset
          have hk0 : (0 : Int) ≤ (k : Int) := by omega
          have hk1 : (k : Int) < (m : Int) := by omega
          have hk2 : (0 : Int) ≤ 2 * (k : Int) := by omega
          have hk3 : 2 * (k : Int) < 2 * (m : Int) := by omega
          have hk4 : (0 : Int) ≤ 2 * (k : Int) + 1 := by omega
          have hk5 : 2 * (k : Int) + 1 < 2 * (m : Int) := by omega
          have wr1 : IntKind.i64.wrap (2 * (k : Int)) = 2 * (k : Int) := by rw [IntKind.wrap_i64]; omega
          have wr2 : IntKind.i64.wrap (2 * (k : Int) + 1) = 2 * (k : Int) + 1 := by rw [IntKind.wrap_i64]; omega
          have wr4 : IntKind.u8.wrap (16 * x + y) = 16 * x + y := by rw [IntKind.wrap_u8']; omega
          have wr3 : IntKind.i64.wrap (x * 16) = x * 16 := by rw [IntKind.wrap_i64]; omega
          go_wp2_with fail
          go_region_held3 (fun _ => True)
            (trivial)
            (first | (go_at_call_of 27 a1; refine (C1.out _).mono ?_; rintro e w' ⟨rfl, rfl⟩) | (go_at_call_of 27 a2; refine (C2.out _).mono ?_; rintro e w' ⟨rfl, rfl⟩))
          all_goals
            go_wp2
            go_roundw
            case rel => exact ⟨k + 1, by omega, by go_num, by rw [← HSET.out]; exact (HO.out.stored k _).1.drew, (HB2.out.setCell (Nat.le_refl _) _).drew⟩
            case measure => simp [intOf]; omega
        · obtain rfl : k = m := by omega
          go_wp2
          go_ret3
          have hown := HO.out
          rw [Nat.sub_self, List.replicate_zero, List.append_nil, List.take_of_length_le (by rw [HL.out]; omega)] at hown
          exact ⟨_, rfl, hown, HB2.out⟩
    · have hno := hexOk_no (l := l) (by omega)
      have e1 : hexB l = [] := by simp [hexB, hno]
      have e2 : hexAt l = n := by simp [hexAt, hno, hbn]
      have e3 : hexE l = 4 := by simp [hexE, hno]
      rw [e1, e2, e3]
      have hn2 : ((n : Int) % 2) = 1 := by omega
      have htest : ((n : Int) % 2 != 0) = true := by simp [hn2]
      clear hlen hno e1 e2 e3 hle hbn h1
      go_enter Try.func15, Try.ntmps15
      go_wp2_with fail
      refine (HST.out _).mono ?_
      rintro e w' ⟨rfl, rfl⟩
      go_wp2_with fail
      go_ret3
      exact ⟨_, rfl, World.ownsRow_nil _ _ _ _, Below.refl _ _⟩
end LW
end Go.Proofs.Ytbjelenmnlmodab
