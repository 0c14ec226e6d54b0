/-
  What the call Base64 (the document) gives, for every row of at most 8388608 bytes.
-/
import Derived.Test.YtbjelenmnlmodabBase
import Derived.Test.YtbjelenmnlmodabB64b
namespace Go.Proofs.Ytbjelenmnlmodab
open Go.RowKit
set_option linter.unusedVariables false
namespace LW
open Words Txt B64
set_option maxRecDepth 100000 in
set_option maxHeartbeats 3200000 in
theorem rbase64 (a : Option Addr) (cap : Nat) (zs : List Int) (w : World) (hz : Byt zs) (hr : Row w a zs) (hm : zs.length ≤ 8388608) :
    Calls Try.prog 21 #[.slice a zs.length cap] w fun e w' => e = .returned (.string (strOfNums (enc zs))) ∧ Below w.heap.size w w' := by
  obtain ⟨i0, hi, hz0, hz1, hz2⟩ := info_parts info5
  rcases hr with rfl | ⟨b, off, rfl, hcell⟩
  · have hcv := fun W : World => run_convert_bytes_nil (P := Try.prog) W 22 5 Try.underlying22 Try.underlying5 0 0 9 Try.underlying9
    clear hz hm
    go_enter Try.func21, Try.ntmps21
    go_wp2
    go_loop [3, 4, 5, 6] (fun t hd fr i => t = .slice none 0 0 ∧ hd = .int .i64 0 ∧ fr = .int .i64 0 ∧ i = .int .i64 0) (fun _ _ _ _ => 0)
    case atStart => exact ⟨rfl, rfl, rfl, rfl⟩
    case round =>
      obtain ⟨rfl, rfl, rfl, rfl⟩ := hrel
      go_wp2
      go_ret
      exact ⟨rfl, Below.refl _ _⟩
  · obtain ⟨len, hlen⟩ : ∃ len, zs.length = len := ⟨_, rfl⟩
    have hs := fun k (h : k < len) => take_snoc zs k (by omega)
    have hbl : 0 < len → b < w.heap.size := fun h => lt_of_cell (hcell 0 (by omega))
    rw [hlen] at hm hcell ⊢
    have H1 := TW.hide hcell
    have HS := TW.hide hs
    have HN := TW.hide hlen
    have HZ := TW.hide hz
    have HBL := TW.hide hbl
    clear hcell hs hlen hz hbl
    go_enter Try.func21, Try.ntmps21
    go_wp2
    go_loopw [3, 4, 5, 6] (fun t hd wo i wr => ∃ (k : Nat), k ≤ len ∧ i = .int .i64 k ∧ hd = .int .i64 ((E (zs.take k)).have_ : Int) ∧ wo = .int .i64 (E (zs.take k)).worth ∧ (E (zs.take k)).out.length ≤ 8 * k ∧ wr.ownsRow w.heap.size 5 1 t (E (zs.take k)).out.length (vs ((E (zs.take k)).out.map let6)) ∧ Below w.heap.size w wr) (fun _ _ _ i _ => len - (intOf i).toNat)
    case atStart => exact ⟨0, Nat.zero_le _, rfl, rfl, rfl, by simp [E, st0], World.ownsRow_nil _ _ _ _, Below.refl _ _⟩
    case round =>
      obtain ⟨k, hk, rfl, rfl, rfl, hol, hown, hbel⟩ := hrel
      by_cases hlt : k < len
      · have hbw := HBL.out (by omega)
        have hcB : ∀ W, Below w.heap.size w W → W.cell? ⟨b, off + k, none⟩ = some (.int .u8 (zs.getD k 0)) := fun W h => by rw [h.cell hbw]; exact H1.out k hlt
        have hb := HZ.out.get k
        have hsn : E (zs.take (k + 1)) = T (zs.getD k 0) (E (zs.take k)) 0 := by rw [HS.out k hlt, E_snoc, T_0]
        have hg := ok6 (good6_E (HZ.out.take k))
        generalize zs.getD k 0 = z at *
        generalize E (zs.take k) = s at *
        obtain ⟨hb1, hb2⟩ := hb
        have HCB := TW.hide hcB
        have HSN := TW.hide hsn
        have HOW := TW.hide hown
        have HBE := TW.hide hbel
        have HG := TW.hide hg
        clear hsn hown hbel hcB hg
        go_wp2
        obtain ⟨wo, hwo⟩ : ∃ wo : World, wo = wr := ⟨_, rfl⟩
        subst hwo
        go_loopw [3, 4, 5, 7] (fun t hd wo i wr => ∃ q : Nat, q ≤ 8 ∧ i = .int .i64 ((q : Int) - 1) ∧ hd = .int .i64 ((T z s q).have_ : Int) ∧ wo = .int .i64 (T z s q).worth ∧ (T z s q).out.length ≤ 8 * k + (8 - q) ∧ wr.ownsRow w.heap.size 5 1 t (T z s q).out.length (vs ((T z s q).out.map let6)) ∧ Below w.heap.size w wr) (fun _ _ _ i _ => (intOf i + 1).toNat)
        case atStart => exact ⟨8, Nat.le_refl _, rfl, rfl, rfl, by rw [T_8]; omega, HOW.out, HBE.out⟩
        case round =>
          obtain ⟨q, hq, rfl, rfl, rfl, hol2, hown, hbel⟩ := hrel
          cases q with
          | succ p =>
            have hc := HCB.out _ hbel
            have hsz := hbel.size
            have hts := T_succ z s p (by omega)
            have hok := T_ok z HG.out (p + 1) hq
            have hbt0 : 0 ≤ z / 2 ^ p % 2 := by omega
            have hbt1 : z / 2 ^ p % 2 < 2 := by omega
            have hp0 : 0 ≤ z / 2 ^ p := Int.ediv_nonneg hb1 (Int.le_of_lt (Int.pow_pos (by decide)))
            have hp1 : z / 2 ^ p < 256 := Int.lt_of_le_of_lt (Int.ediv_le_self _ hb1) hb2
            generalize T z s (p + 1) = r at *
            obtain ⟨o, f, h⟩ := r
            obtain ⟨ok1, ok2, ok3, ok4⟩ := hok
            simp only at *
            have h64 := pow8 f (by omega)
            have h128 : h < 128 := by omega
            obtain ⟨y, hy⟩ : ∃ y, z / 2 ^ p = y := ⟨_, rfl⟩
            rw [hy] at hts hbt0 hbt1 hp0 hp1
            have HOW2 := TW.hide hown
            have HBE2 := TW.hide hbel
            by_cases hf : f = 5
            · subst hf
              have h32 : h < 32 := ok4
              have hv0 : 0 ≤ 2 * h + y % 2 := by omega
              have hv1 : 2 * h + y % 2 < 64 := by omega
              have hl := letter .i64 (2 * h + y % 2) hv0 hv1
              have HTS : Hid (T z s p = ⟨o ++ [2 * h + y % 2], 0, 0⟩) := by rw [hts]; rfl
              clear hts hown hbel ok1 ok4 h64
              go_wp2_with (at_builtin; refine wpList_append_own _ rfl _ _ 22 rfl w.heap.size 5 i0 (.int .u8 0) 1 1 Try.underlying22 hi hz0 hz1 hz2 rfl (by decide) _ o.length (vs (o.map let6)) rfl (HOW2.out.alloc _) ⟨wr.heap.size, 0, none⟩ 1 1 [.int .u8 (let6 (2 * h + y % 2))] rfl rfl (one_new _ _) (by simp [Value.oneCell']) (by unfold maxLen; omega) (by omega) (by simp; omega) ?_; intro v2 w2 how2 hgw2 _; have Ow2 := TW.hide how2; have Bw2 : Hid (Below w.heap.size w w2) := (HBE2.out.alloc (by omega) _).grown hgw2 (by simp; omega) (own_block HOW2.out); clear how2 hgw2)
              go_roundw
              case rel => exact ⟨p, by omega, by go_num, by rw [HTS.out]; rfl, by rw [HTS.out], by rw [HTS.out]; simp; omega, by rw [HTS.out]; exact own_snoc Ow2.out, Bw2.out⟩
              case measure => simp [intOf]
            · have hf6 : ((f : Int) + 1 == 6) = false := by simp; omega
              have HTS : Hid (T z s p = ⟨o, f + 1, 2 * h + y % 2⟩) := by rw [hts]; exact if_neg (by simp only; omega)
              clear hts hown hbel ok1 ok4 h64
              go_wp2_with fail
              go_roundw
              case rel => exact ⟨p, by omega, by go_num, by rw [HTS.out]; go_num, by rw [HTS.out], by rw [HTS.out]; simp only; omega, by rw [HTS.out]; exact HOW2.out, HBE2.out⟩
              case measure => simp [intOf]
          | zero =>
            have HOW2 := TW.hide hown
            have HBE2 := TW.hide hbel
            have HOL := TW.hide hol2
            clear hown hbel hol2
            go_wp2_with fail
            go_roundw
            case rel => exact ⟨k + 1, by omega, by go_num, by rw [HSN.out], by rw [HSN.out], by rw [HSN.out]; have := HOL.out; omega, by rw [HSN.out]; exact HOW2.out, HBE2.out⟩
            case measure => simp [intOf]; omega
      · obtain rfl : k = len := by omega
        have henc : enc zs = ((E (zs.take k)).out ++ if (E (zs.take k)).have_ = 0 then [] else [(E (zs.take k)).worth * 2 ^ (6 - (E (zs.take k)).have_)]).map let6 := by
          rw [List.take_of_length_le (by rw [HN.out]; omega)]; rfl
        have hg := good6_E (HZ.out.take k)
        have hsz := hbel.size
        generalize E (zs.take k) = s at *
        obtain ⟨o, f, h⟩ := s
        obtain ⟨ho, hf⟩ := hg
        simp only at *
        have HOW := TW.hide hown
        have HBE := TW.hide hbel
        rcases hf with ⟨rfl, rfl⟩ | ⟨rfl, f1, f2⟩ | ⟨rfl, f1, f2⟩
        · rw [if_pos rfl, List.append_nil] at henc
          have hcv := conv_own hown (xs := o.map let6) (by simp)
          rw [← henc] at hcv
          clear hown hbel henc
          go_wp2
          go_ret
          exact ⟨rfl, HBE.out⟩
        · have hl := letter .i64 (2 * (2 * (2 * (2 * h)))) (by omega) (by omega)
          have HENC : Hid (enc zs = (o ++ [2 * (2 * (2 * (2 * h)))]).map let6) := by
            show enc zs = _
            rw [henc, show 2 * (2 * (2 * (2 * h))) = h * 16 by omega]; rfl
          clear henc hown hbel
          go_wp2_with fail
          refine wp_loop_rounds 5 ?_
          rw [rounds_succ]
          go_wp2_with fail
          rw [rounds_succ]
          go_wp2_with fail
          rw [rounds_succ]
          go_wp2_with fail
          rw [rounds_succ]
          go_wp2_with fail
          rw [rounds_succ]
          go_wp2_with (at_builtin; refine wpList_append_own _ rfl _ _ 22 rfl w.heap.size 5 i0 (.int .u8 0) 1 1 Try.underlying22 hi hz0 hz1 hz2 rfl (by decide) u3 o.length (vs (o.map let6)) rfl (HOW.out.alloc _) ⟨wr.heap.size, 0, none⟩ 1 1 [.int .u8 (let6 (2 * (2 * (2 * (2 * h)))))] rfl rfl (one_new _ _) (by simp [Value.oneCell']) (by unfold maxLen; omega) (by omega) (by simp; omega) ?_; intro v2 w2 how2 hgw2 _; have hcv := conv_own (own_snoc how2) (by simp); have Bw2 : Hid (Below w.heap.size w w2) := (HBE.out.alloc (by omega) _).grown hgw2 (by simp; omega) (own_block HOW.out); clear how2 hgw2)
          go_ret
          rw [HENC.out, List.map_append]
          exact ⟨rfl, Bw2.out⟩
        · have hl := letter .i64 (2 * (2 * h)) (by omega) (by omega)
          have HENC : Hid (enc zs = (o ++ [2 * (2 * h)]).map let6) := by
            show enc zs = _
            rw [henc, show 2 * (2 * h) = h * 4 by omega]; rfl
          clear henc hown hbel
          go_wp2_with fail
          refine wp_loop_rounds 3 ?_
          rw [rounds_succ]
          go_wp2_with fail
          rw [rounds_succ]
          go_wp2_with fail
          rw [rounds_succ]
          go_wp2_with (at_builtin; refine wpList_append_own _ rfl _ _ 22 rfl w.heap.size 5 i0 (.int .u8 0) 1 1 Try.underlying22 hi hz0 hz1 hz2 rfl (by decide) u3 o.length (vs (o.map let6)) rfl (HOW.out.alloc _) ⟨wr.heap.size, 0, none⟩ 1 1 [.int .u8 (let6 (2 * (2 * h)))] rfl rfl (one_new _ _) (by simp [Value.oneCell']) (by unfold maxLen; omega) (by omega) (by simp; omega) ?_; intro v2 w2 how2 hgw2 _; have hcv := conv_own (own_snoc how2) (by simp); have Bw2 : Hid (Below w.heap.size w w2) := (HBE.out.alloc (by omega) _).grown hgw2 (by simp; omega) (own_block HOW.out); clear how2 hgw2)
          go_ret
          rw [HENC.out, List.map_append]
          exact ⟨rfl, Bw2.out⟩
end LW
end Go.Proofs.Ytbjelenmnlmodab
