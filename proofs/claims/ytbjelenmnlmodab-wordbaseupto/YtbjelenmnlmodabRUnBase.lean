/-
  What the call UnBase64 (the document) gives: the bytes, a place, an error.
-/
import Derived.Test.YtbjelenmnlmodabUnBase
namespace Go.Proofs.Ytbjelenmnlmodab
open Go.RowKit
set_option linter.unusedVariables false
namespace LW
open Words Txt B64
set_option maxRecDepth 100000 in
set_option maxHeartbeats 3200000 in
theorem runbase (s : ByteArray) (w : World) (hs : s.size ≤ 8388608) :
    Calls Try.prog 20 #[.string s] w fun e w' => ∃ v, e = .returned (.tuple #[v, .int .i64 (bAt (sb s)), .int .i64 (bE (sb s))]) ∧
      w'.ownsRow w.heap.size 5 1 v (bB (sb s)).length (vs (bB (sb s))) ∧ Below w.heap.size w w' := by
  obtain ⟨i0, hi, hz0, hz1, hz2⟩ := info_parts info5
  have hbt := sb_byt s
  have hix := fun k h => index_s s k h hs
  have hlen := sb_length s
  have hspec := bad_spec bw (sb s)
  have hno := @bOk_no (sb s)
  have hyes := @bOk_yes (sb s)
  generalize sb s = l at *
  generalize hsz : s.size = n at *
  rw [hlen] at hspec hno hyes
  have HB := TW.hide hbt
  have HI := TW.hide hix
  have HL := TW.hide hlen
  have HS := TW.hide hspec
  have HNO := TW.hide hno
  have HYES := TW.hide hyes
  clear hbt hix hlen hspec hno hyes
  go_enter Try.func20, Try.ntmps20
  go_wp2
  go_loop [5] (fun i => ∃ k : Nat, k ≤ n ∧ i = .int .i64 k ∧ ∀ j, j < k → bw (l.getD j 0) ≠ -1) (fun i => n - (intOf i).toNat)
  case atStart => exact ⟨0, Nat.zero_le _, rfl, fun j h => absurd h (Nat.not_lt_zero _)⟩
  case round =>
    obtain ⟨k, hk, rfl, hall⟩ := hrel
    have HA := TW.hide hall
    clear hall
    by_cases hlt : k < n
    · have hi1 := HI.out k hlt
      have hb := HB.out.get k
      have hsp := HS.out k (by omega) HA.out
      have hfc := fun W => letterOf (l.getD k 0) W hb.1 hb.2
      have hstep : ∀ j, j < k + 1 → bw (l.getD k 0) ≠ -1 → bw (l.getD j 0) ≠ -1 := by
        intro j hj hg
        rcases Nat.lt_or_eq_of_le (Nat.lt_succ_iff.1 hj) with h' | rfl
        · exact HA.out j h'
        · exact hg
      have hbd := bw_bd (l.getD k 0)
      generalize l.getD k 0 = c at *
      generalize hgc : bw c = v at *
      have HFC := TW.hide hfc
      have HSP := TW.hide hsp
      have HST := TW.hide hstep
      clear hfc hsp hstep hgc
      by_cases hv : v < 0
      · go_wp2_with fail
        refine (HFC.out _).mono ?_
        rintro e w' ⟨rfl, rfl⟩
        go_wp2_with fail
        go_ret3
        have hbad := HSP.out (fun _ => by omega)
        have h1 := HNO.out (by omega)
        have e1 : bB l = [] := by simp [bB, h1]
        have e2 : bAt l = k := by simp [bAt, h1, hbad]
        have e3 : bE l = 4 := by simp [bE, h1]
        rw [e1, e2, e3]
        exact ⟨_, rfl, World.ownsRow_nil _ _ _ _, Below.refl _ _⟩
      · go_wp2_with fail
        refine (HFC.out _).mono ?_
        rintro e w' ⟨rfl, rfl⟩
        go_wp2_with fail
        go_round
        case rel => exact ⟨k + 1, by omega, by go_num, fun j hj => HST.out j hj (by omega)⟩
        case measure => simp [intOf]; omega
    · obtain rfl : k = n := by omega
      have hbad := HS.out k (by omega) HA.out (fun h => absurd h (by omega))
      by_cases h2 : k % 4 = 1
      · have htest : ((k : Int) % 4 == 1) = true := by simp; omega
        have HN1 := TW.hide (HNO.out (by omega))
        have HBAD := TW.hide hbad
        clear hbad
        go_wp2
        go_ret3
        have h1 := HN1.out
        have e1 : bB l = [] := by simp [bB, h1]
        have e2 : bAt l = k := by simp [bAt, h1, HBAD.out]
        have e3 : bE l = 4 := by simp [bE, h1]
        rw [e1, e2, e3]
        exact ⟨_, rfl, World.ownsRow_nil _ _ _ _, Below.refl _ _⟩
      · have htest : ((k : Int) % 4 == 1) = false := by simp; omega
        have HY := TW.hide (HYES.out hbad h2)
        clear hbad
        go_wp2
        go_loopw [6, 7, 8, 9] (fun t hd wo i wr => ∃ (m : Nat), m ≤ k ∧ i = .int .i64 m ∧ hd = .int .i64 ((D ((l.take m).map bw)).have_ : Int) ∧ wo = .int .i64 (D ((l.take m).map bw)).worth ∧ (D ((l.take m).map bw)).out.length ≤ 6 * m ∧ wr.ownsRow w.heap.size 5 1 t (D ((l.take m).map bw)).out.length (vs (D ((l.take m).map bw)).out) ∧ Below w.heap.size w wr) (fun _ _ _ i _ => k - (intOf i).toNat)
        case atStart => exact ⟨0, Nat.zero_le _, rfl, rfl, rfl, by simp [D, st0], World.ownsRow_nil _ _ _ _, Below.refl _ _⟩
        case round =>
          obtain ⟨m, hmk, rfl, rfl, rfl, hol, hown, hbel⟩ := hrel
          by_cases hmlt : m < k
          · have hix := HI.out m hmlt
            have hb := HB.out.get m
            have hne := HA.out m hmlt
            have hsn : D ((l.take (m + 1)).map bw) = T6 (bw (l.getD m 0)) (D ((l.take m).map bw)) 0 := by rw [D_take l m (by rw [HL.out]; exact hmlt), T6_0]
            have hg := ok8 (good8_D (vals_ok l m (by rw [HL.out]; exact hmk) fun j hj => HA.out j (by omega)))
            have hcl := fun W => letterOf (l.getD m 0) W hb.1 hb.2
            have hbd := bw_bd (l.getD m 0)
            generalize l.getD m 0 = c at *
            generalize bw c = z at *
            generalize D ((l.take m).map bw) = s0 at *
            have hz0' : 0 ≤ z := by omega
            have hz1' : z < 64 := by omega
            have HCL := TW.hide hcl
            have HSN := TW.hide hsn
            have HOW := TW.hide hown
            have HBE := TW.hide hbel
            have HG := TW.hide hg
            clear hsn hown hbel hcl hg hne hbd
            go_wp2
            obtain ⟨wo, hwo⟩ : ∃ wo : World, wo = wr := ⟨_, rfl⟩
            subst hwo
            go_loopw [6, 7, 8, 10] (fun t hd wo i wr => ∃ q : Nat, q ≤ 6 ∧ i = .int .i64 ((q : Int) - 1) ∧ hd = .int .i64 ((T6 z s0 q).have_ : Int) ∧ wo = .int .i64 (T6 z s0 q).worth ∧ (T6 z s0 q).out.length ≤ 6 * m + (6 - q) ∧ wr.ownsRow w.heap.size 5 1 t (T6 z s0 q).out.length (vs (T6 z s0 q).out) ∧ Below w.heap.size w wr) (fun _ _ _ i _ => (intOf i + 1).toNat)
            case atStart => exact ⟨6, Nat.le_refl _, rfl, rfl, rfl, by rw [T6_6]; omega, HOW.out, HBE.out⟩
            case round =>
              obtain ⟨q, hq, rfl, rfl, rfl, hol2, hown, hbel⟩ := hrel
              cases q with
              | succ p =>
                have hsz := hbel.size
                have hts := T6_succ z s0 p (by omega)
                have hok := T6_ok z HG.out (p + 1) hq
                have hbt0 : 0 ≤ z / 2 ^ p % 2 := by omega
                have hbt1 : z / 2 ^ p % 2 < 2 := by omega
                have hp0 : 0 ≤ z / 2 ^ p := Int.ediv_nonneg hz0' (Int.le_of_lt (Int.pow_pos (by decide)))
                have hp1 : z / 2 ^ p < 64 := Int.lt_of_le_of_lt (Int.ediv_le_self _ hz0') hz1'
                generalize T6 z s0 (p + 1) = r at *
                obtain ⟨o, f, h⟩ := r
                obtain ⟨ok1, ok2, ok3, ok4⟩ := hok
                simp only at *
                have h64 := pow8 f (by omega)
                have h128 : h < 128 := by omega
                obtain ⟨y, hy⟩ : ∃ y, z / 2 ^ p = y := ⟨_, rfl⟩
                rw [hy] at hts hbt0 hbt1 hp0 hp1
                have HOW2 := TW.hide hown
                have HBE2 := TW.hide hbel
                by_cases hf : f = 7
                · subst hf
                  have hv0 : 0 ≤ 2 * h + y % 2 := by omega
                  have hv1 : 2 * h + y % 2 < 256 := by omega
                  have hwv : IntKind.u8.wrap (2 * h + y % 2) = 2 * h + y % 2 := by rw [IntKind.wrap_u8']; omega
                  have HTS : Hid (T6 z s0 p = ⟨o ++ [2 * h + y % 2], 0, 0⟩) := by rw [hts]; rfl
                  clear hts hown hbel ok1 ok4 h64
                  go_wp2_with fail
                  refine (HCL.out _).mono ?_
                  rintro e w' ⟨rfl, rfl⟩
                  go_wp2_with (at_builtin; refine wpList_append_own _ rfl _ _ 22 rfl w.heap.size 5 i0 (.int .u8 0) 1 1 Try.underlying22 hi hz0 hz1 hz2 rfl (by decide) _ o.length (vs o) rfl (HOW2.out.alloc _) ⟨wr.heap.size, 0, none⟩ 1 1 [.int .u8 (2 * h + y % 2)] rfl rfl (one_new _ _) (by simp [Value.oneCell']) (by unfold maxLen; omega) (by omega) (by simp; omega) ?_; intro v2 w2 how2 hgw2 _; have Ow2 := TW.hide how2; have Bw2 : Hid (Below w.heap.size w w2) := (HBE2.out.alloc (by omega) _).grown hgw2 (by simp; omega) (own_block HOW2.out); clear how2 hgw2)
                  go_roundw
                  case rel => exact ⟨p, by omega, by go_num, by rw [HTS.out]; rfl, by rw [HTS.out], by rw [HTS.out]; simp; omega, by rw [HTS.out]; exact own_snocB Ow2.out, Bw2.out⟩
                  case measure => simp [intOf]
                · have hf6 : ((f : Int) + 1 == 8) = false := by simp; omega
                  have HTS : Hid (T6 z s0 p = ⟨o, f + 1, 2 * h + y % 2⟩) := by rw [hts]; exact if_neg (by simp only; omega)
                  clear hts hown hbel ok1 ok4 h64
                  go_wp2_with fail
                  refine (HCL.out _).mono ?_
                  rintro e w' ⟨rfl, rfl⟩
                  go_wp2_with fail
                  go_roundw
                  case rel => exact ⟨p, by omega, by go_num, by rw [HTS.out]; go_num, by rw [HTS.out], by rw [HTS.out]; simp only; omega, by rw [HTS.out]; exact HOW2.out, HBE2.out⟩
                  case measure => simp [intOf]
              | zero =>
                have HOW2 := TW.hide hown
                have HBE2 := TW.hide hbel
                have HOL := TW.hide hol2
                clear hown hbel hol2
                go_wp2_with fail
                go_roundw
                case rel => exact ⟨m + 1, by omega, by go_num, by rw [HSN.out], by rw [HSN.out], by rw [HSN.out]; have := HOL.out; omega, by rw [HSN.out]; exact HOW2.out, HBE2.out⟩
                case measure => simp [intOf]; omega
          · obtain rfl : m = k := by omega
            have hE1 : bB l = if (D ((l.take m).map bw)).worth = 0 then (D ((l.take m).map bw)).out else [] := by
              rw [List.take_of_length_le (by rw [HL.out]; omega)]; simp [bB, HY.out]
            have hE2 : bAt l = if (D ((l.take m).map bw)).worth = 0 then 0 else (m : Int) - 1 := by
              rw [List.take_of_length_le (by rw [HL.out]; omega)]; simp [bAt, HY.out, HL.out]
            have hE3 : bE l = if (D ((l.take m).map bw)).worth = 0 then 0 else 4 := by
              rw [List.take_of_length_le (by rw [HL.out]; omega)]; simp [bE, HY.out]
            generalize D ((l.take m).map bw) = q at *
            obtain ⟨o, f, h⟩ := q
            simp only at *
            have HE1 := TW.hide hE1
            have HE2 := TW.hide hE2
            have HE3 := TW.hide hE3
            have HOW := TW.hide hown
            have HBL := TW.hide hbel
            clear hE1 hE2 hE3 hown hbel
            by_cases hh : h = 0
            · have hhb : (h != 0) = false := by simp [hh]
              have HH := TW.hide hh
              clear hh
              go_wp2_with fail
              go_ret3
              rw [HE1.out, HE2.out, HE3.out, HH.out]
              exact ⟨_, rfl, HOW.out, HBL.out⟩
            · have hhb : (h != 0) = true := by simp [hh]
              have HH := TW.hide hh
              clear hh
              go_wp2_with fail
              go_ret3
              rw [HE1.out, HE2.out, HE3.out, if_neg HH.out, if_neg HH.out, if_neg HH.out]
              exact ⟨_, rfl, World.ownsRow_nil _ _ _ _, HBL.out⟩
end LW
end Go.Proofs.Ytbjelenmnlmodab
