/-
  What the call Base64 (the program) gives, for every row of at most 8388608 bytes.
-/
import Derived.Test.YtbjelenmnlmodabLetters
import Derived.Test.YtbjelenmnlmodabUnHex
import Derived.LoopN
namespace Go.Proofs.Ytbjelenmnlmodab
open Go.RowKit
set_option linter.unusedVariables false
namespace LW
open Words Txt B64
theorem or8 (H z : Int) (h0 : 0 ≤ H) (h1 : H < 4294967296) (h2 : 0 ≤ z) (h3 : z < 256) : bits .or .u32 (H * 256 % 4294967296) z = H * 256 % 4294967296 + z := by
  obtain ⟨Z, rfl⟩ := Int.eq_ofNat_of_zero_le h2
  obtain ⟨X, hX⟩ := Int.eq_ofNat_of_zero_le (show 0 ≤ H * 256 % 4294967296 by omega)
  have hX2 : X % 2 ^ 8 = 0 := by omega
  rw [hX, u32_or_nat _ _ (by omega) (by omega), nat_join 8 _ _ hX2 (by omega)]
  omega
theorem and63 (x : Int) (h0 : 0 ≤ x) (h1 : x < 4294967296) : bits .and .u32 x 63 = x % 64 := by
  rw [u32_and x 63 h0 h1 (by omega) (by omega), show (63 : Int).toNat = 63 from rfl, nat_mask6]; omega
theorem own_snoc {w : World} {B : Nat} {v : Value} {o : List Int} {x : Int} (h : w.ownsRow B 5 1 v (o.length + 1) (vs (o.map let6) ++ [.int .u8 (let6 x)])) : w.ownsRow B 5 1 v (o ++ [x]).length (vs ((o ++ [x]).map let6)) := by
  simpa [vs] using h
theorem own_snoc' {w : World} {B : Nat} {v : Value} {o : List Int} {x y : Int} (h : w.ownsRow B 5 1 v (o.length + 1 + 1) (vs (o.map let6) ++ [.int .u8 (let6 x)] ++ [.int .u8 (let6 y)])) : w.ownsRow B 5 1 v ((o ++ [x]).length + 1) (vs ((o ++ [x]).map let6) ++ [.int .u8 (let6 y)]) := by
  simpa [vs] using h
set_option maxRecDepth 100000 in
set_option maxHeartbeats 3200000 in
theorem base64 (a : Option Addr) (cap : Nat) (zs : List Int) (w : World) (hz : Byt zs) (hr : Row w a zs) (hm : zs.length ≤ 8388608) :
    Calls Try.prog 18 #[.slice a zs.length cap] w fun e w' => e = .returned (.string (strOfNums (enc zs))) ∧ Below w.heap.size w w' := by
  obtain ⟨i0, hi, hz0, hz1, hz2⟩ := info_parts info5
  rcases hr with rfl | ⟨b, off, rfl, hcell⟩
  · have hcv := fun W : World => run_convert_bytes_arg (P := Try.prog) W 22 5 Try.underlying22 Try.underlying5 w.heap.size 0 0 0 [] rfl (fun i h => absurd h (Nat.not_lt_zero _)) 9 Try.underlying9
    clear hz hm
    go_enter Try.func18, Try.ntmps18
    go_wp2_with (at_make; refine wpList_make_own _ rfl _ _ 22 rfl w.heap.size 5 i0 (.int .u8 0) 1 Try.underlying22 hi hz0 hz1 _ _ _ 0 rfl rfl (by simp) (by omega) (by unfold maxLen; omega) (by omega) ?_; intro w1 hown hgrow)
    have hbel : Below w.heap.size w w1 := (Below.refl _ _).grown hgrow (Nat.le_refl _) (by intro k h; cases h)
    have HB := TW.hide hbel
    clear hown hgrow hbel
    go_loop [3, 4, 5, 21] (fun t hd fr i => t = .slice (some ⟨w.heap.size, 0, none⟩) 0 0 ∧ hd = .int .u32 0 ∧ fr = .int .i64 0 ∧ i = .int .i64 0) (fun _ _ _ _ => 0)
    case atStart => exact ⟨rfl, rfl, rfl, rfl⟩
    case round =>
      obtain ⟨rfl, rfl, rfl, rfl⟩ := hrel
      go_wp2
      go_ret
      exact ⟨rfl, HB.out⟩
  · obtain ⟨len, hlen⟩ : ∃ len, zs.length = len := ⟨_, rfl⟩
    have hs := fun k (h : k < len) => take_snoc zs k (by omega)
    have hbl : 0 < len → b < w.heap.size := fun h => lt_of_cell (hcell 0 (by omega))
    rw [hlen] at hm hcell ⊢
    have H1 := TW.hide hcell
    have HS := TW.hide hs
    have HN := TW.hide hlen
    have HZ := TW.hide hz
    have HBL := TW.hide hbl
    clear hcell hs hlen hz hbl
    go_enter Try.func18, Try.ntmps18
    go_wp2_with (at_make; refine wpList_make_own _ rfl _ _ 22 rfl w.heap.size 5 i0 (.int .u8 0) 1 Try.underlying22 hi hz0 hz1 _ _ _ (len / 3 * 4 + (len % 3 * 8 + 5) / 6) rfl rfl (by omega) (by rw [hz2]; omega) (by unfold maxLen; omega) (by omega) ?_; intro w1 hown hgrow)
    have hbel : Below w.heap.size w w1 := (Below.refl _ _).grown hgrow (Nat.le_refl _) (by intro k h; cases h)
    have G1 := TW.hide hown
    have G2 := TW.hide hbel
    clear hown hgrow hbel
    go_loopw [3, 4, 5, 21] (fun t hd fr i wr => ∃ (k : Nat) (H : Int), k ≤ len ∧ i = .int .i64 k ∧ hd = .int .u32 H ∧ 0 ≤ H ∧ H < 4294967296 ∧ fr = .int .i64 ((E (zs.take k)).have_ : Int) ∧ H % 2 ^ (E (zs.take k)).have_ = (E (zs.take k)).worth ∧ (E (zs.take k)).out.length ≤ 2 * k ∧ wr.ownsRow w.heap.size 5 1 t (E (zs.take k)).out.length (vs ((E (zs.take k)).out.map let6)) ∧ Below w.heap.size w wr) (fun _ _ _ i _ => len - (intOf i).toNat)
    case atStart => exact ⟨0, 0, Nat.zero_le _, rfl, rfl, by omega, by omega, rfl, rfl, by simp [E, st0], by simpa [vs, E, st0] using G1.out, G2.out⟩
    case round =>
      obtain ⟨k, H, hk, rfl, rfl, hH0, hH1, rfl, hHw, hol, hown, hbel⟩ := hrel
      clear G1 G2
      by_cases hlt : k < len
      · have hbw := HBL.out (by omega)
        have hc : wr.cell? ⟨b, off + k, none⟩ = some (.int .u8 (zs.getD k 0)) := by rw [hbel.cell hbw]; exact H1.out k hlt
        have hb := HZ.out.get k
        have hsn : E (zs.take (k + 1)) = (E (zs.take k)).byte (zs.getD k 0) := by rw [HS.out k hlt, E_snoc]
        have hg := good6_E (HZ.out.take k)
        have hsz := hbel.size
        generalize zs.getD k 0 = z at *
        generalize E (zs.take k) = s at *
        obtain ⟨o, f, h⟩ := s
        obtain ⟨ho, hf⟩ := hg
        simp only at *
        obtain ⟨hb1, hb2⟩ := hb
        obtain ⟨X, hX⟩ : ∃ X, H * 256 % 4294967296 + z = X := ⟨_, rfl⟩
        have hor := or8 H z hH0 hH1 hb1 hb2
        have hwz : IntKind.u32.wrap z = z := by rw [IntKind.wrap_u32']; omega
        have hX0 : 0 ≤ X := by omega
        have hX1 : X < 4294967296 := by omega
        rw [hX] at hor
        rcases hf with ⟨rfl, rfl⟩ | ⟨rfl, f1, f2⟩ | ⟨rfl, f1, f2⟩
        · rw [byte0 _ _ hb1 hb2] at hsn
          have ha : bits BinOp.and IntKind.u32 (X / 4) 63 = z / 4 := by rw [and63 _ (by omega) (by omega)]; omega
          have hl := letter .u32 (z / 4) (by omega) (by omega)
          have HMOD : Hid (X % 2 ^ 2 = z % 4) := by show X % 4 = z % 4; omega
          have HSN := TW.hide hsn
          have HOW := TW.hide hown
          have HBE := TW.hide hbel
          clear hsn hown hbel hHw hX hb1 hb2
          have tok1 : True := trivial
          have tok2 : True := trivial
          go_wp2_with fail
          refine wp_loop_rounds 2 ?_
          rw [rounds_succ]
          go_wp2_with (at_builtin; have _t := tok1; refine wpList_append_own _ rfl _ _ 22 rfl w.heap.size 5 i0 (.int .u8 0) 1 1 Try.underlying22 hi hz0 hz1 hz2 rfl (by decide) u3 o.length (vs (o.map let6)) rfl (HOW.out.alloc _) ⟨wr.heap.size, 0, none⟩ 1 1 [.int .u8 (let6 (z / 4))] rfl rfl (one_new _ _) (by simp [Value.oneCell']) (by unfold maxLen; omega) (by omega) (by simp; omega) ?_; intro v2 w2 how2 hgw2 _; have Ow2 := TW.hide how2; have Bw2 : Hid (Below w.heap.size w w2) := (HBE.out.alloc (by omega) _).grown hgw2 (by simp; omega) (own_block HOW.out); have hsw2 : w.heap.size ≤ w2.heap.size := Bw2.out.size; clear how2 hgw2 tok1)
          rw [rounds_succ]
          go_wp2_with fail
          go_roundw
          case rel => exact ⟨k + 1, X, by omega, by go_num, rfl, hX0, hX1, by rw [HSN.out]; rfl, by rw [HSN.out]; exact HMOD.out, by rw [HSN.out]; simp; omega, by rw [HSN.out]; exact own_snoc Ow2.out, Bw2.out⟩
          case measure => simp [intOf]; omega
        · rw [byte2 _ _ _ hb1 hb2] at hsn
          have hHw' : H % 4 = h := hHw
          have ha : bits BinOp.and IntKind.u32 (X / 16) 63 = 16 * h + z / 16 := by rw [and63 _ (by omega) (by omega)]; omega
          have hl := letter .u32 (16 * h + z / 16) (by omega) (by omega)
          have HMOD : Hid (X % 2 ^ 4 = z % 16) := by show X % 16 = z % 16; omega
          clear hHw'
          have HSN := TW.hide hsn
          have HOW := TW.hide hown
          have HBE := TW.hide hbel
          clear hsn hown hbel hHw hX hb1 hb2
          have tok1 : True := trivial
          have tok2 : True := trivial
          go_wp2_with fail
          refine wp_loop_rounds 2 ?_
          rw [rounds_succ]
          go_wp2_with (at_builtin; have _t := tok1; refine wpList_append_own _ rfl _ _ 22 rfl w.heap.size 5 i0 (.int .u8 0) 1 1 Try.underlying22 hi hz0 hz1 hz2 rfl (by decide) u3 o.length (vs (o.map let6)) rfl (HOW.out.alloc _) ⟨wr.heap.size, 0, none⟩ 1 1 [.int .u8 (let6 (16 * h + z / 16))] rfl rfl (one_new _ _) (by simp [Value.oneCell']) (by unfold maxLen; omega) (by omega) (by simp; omega) ?_; intro v2 w2 how2 hgw2 _; have Ow2 := TW.hide how2; have Bw2 : Hid (Below w.heap.size w w2) := (HBE.out.alloc (by omega) _).grown hgw2 (by simp; omega) (own_block HOW.out); have hsw2 : w.heap.size ≤ w2.heap.size := Bw2.out.size; clear how2 hgw2 tok1)
          rw [rounds_succ]
          go_wp2_with fail
          go_roundw
          case rel => exact ⟨k + 1, X, by omega, by go_num, rfl, hX0, hX1, by rw [HSN.out]; rfl, by rw [HSN.out]; exact HMOD.out, by rw [HSN.out]; simp; omega, by rw [HSN.out]; exact own_snoc Ow2.out, Bw2.out⟩
          case measure => simp [intOf]; omega
        · rw [byte4 _ _ _ hb1 hb2] at hsn
          have hHw' : H % 16 = h := hHw
          have ha : bits BinOp.and IntKind.u32 (X / 64) 63 = 4 * h + z / 64 := by rw [and63 _ (by omega) (by omega)]; omega
          have hl := letter .u32 (4 * h + z / 64) (by omega) (by omega)
          have ha2 : bits BinOp.and IntKind.u32 X 63 = z % 64 := by rw [and63 _ (by omega) (by omega)]; omega
          have hl2 := letter .u32 (z % 64) (by omega) (by omega)
          clear hHw'
          have HSN := TW.hide hsn
          have HOW := TW.hide hown
          have HBE := TW.hide hbel
          clear hsn hown hbel hHw hX hb1 hb2
          have tok1 : True := trivial
          have tok2 : True := trivial
          go_wp2_with fail
          refine wp_loop_rounds 3 ?_
          rw [rounds_succ]
          go_wp2_with (at_builtin; have _t := tok1; refine wpList_append_own _ rfl _ _ 22 rfl w.heap.size 5 i0 (.int .u8 0) 1 1 Try.underlying22 hi hz0 hz1 hz2 rfl (by decide) u3 o.length (vs (o.map let6)) rfl (HOW.out.alloc _) ⟨wr.heap.size, 0, none⟩ 1 1 [.int .u8 (let6 (4 * h + z / 64))] rfl rfl (one_new _ _) (by simp [Value.oneCell']) (by unfold maxLen; omega) (by omega) (by simp; omega) ?_; intro v2 w2 how2 hgw2 _; have Ow2 := TW.hide how2; have Bw2 : Hid (Below w.heap.size w w2) := (HBE.out.alloc (by omega) _).grown hgw2 (by simp; omega) (own_block HOW.out); have hsw2 : w.heap.size ≤ w2.heap.size := Bw2.out.size; clear how2 hgw2 tok1)
          rw [rounds_succ]
          go_wp2_with (at_builtin; have _t := tok2; refine wpList_append_own _ rfl _ _ 22 rfl w.heap.size 5 i0 (.int .u8 0) 1 1 Try.underlying22 hi hz0 hz1 hz2 rfl (by decide) v2 (o.length + 1) (vs (o.map let6) ++ [.int .u8 (let6 (4 * h + z / 64))]) rfl (Ow2.out.alloc _) ⟨w2.heap.size, 0, none⟩ 1 1 [.int .u8 (let6 (z % 64))] rfl rfl (one_new _ _) (by simp [Value.oneCell']) (by unfold maxLen; omega) (by omega) (by simp; omega) ?_; intro v3 w3 how3 hgw3 _; have Ow3 := TW.hide how3; have Bw3 : Hid (Below w.heap.size w w3) := (Bw2.out.alloc (by omega) _).grown hgw3 (by simp; omega) (own_block Ow2.out); have hsw3 : w.heap.size ≤ w3.heap.size := Bw3.out.size; clear how3 hgw3 tok2)
          rw [rounds_succ]
          go_wp2_with fail
          go_roundw
          case rel => exact ⟨k + 1, X, by omega, by go_num, rfl, hX0, hX1, by rw [HSN.out]; rfl, by rw [HSN.out]; simp, by rw [HSN.out]; simp; omega, by rw [HSN.out]; exact own_snoc (own_snoc' Ow3.out), Bw3.out⟩
          case measure => simp [intOf]; omega
      · obtain rfl : k = len := by omega
        have henc : enc zs = ((E (zs.take k)).out ++ if (E (zs.take k)).have_ = 0 then [] else [(E (zs.take k)).worth * 2 ^ (6 - (E (zs.take k)).have_)]).map let6 := by
          rw [List.take_of_length_le (by rw [HN.out]; omega)]; rfl
        have hg := good6_E (HZ.out.take k)
        have hsz := hbel.size
        generalize E (zs.take k) = s at *
        obtain ⟨o, f, h⟩ := s
        obtain ⟨ho, hf⟩ := hg
        simp only at *
        have HOW := TW.hide hown
        have HBE := TW.hide hbel
        rcases hf with ⟨rfl, rfl⟩ | ⟨rfl, f1, f2⟩ | ⟨rfl, f1, f2⟩
        · rw [if_pos rfl, List.append_nil] at henc
          have hcv := conv_own hown (xs := o.map let6) (by simp)
          rw [← henc] at hcv
          clear hown hbel hHw henc
          go_wp2
          go_ret
          exact ⟨rfl, HBE.out⟩
        · have hHw' : H % 4 = h := hHw
          have ha : bits BinOp.and IntKind.u32 (H * 16 % 4294967296) 63 = h * 16 := by rw [and63 _ (by omega) (by omega)]; omega
          have hl := letter .u32 (h * 16) (by omega) (by omega)
          have HENC : Hid (enc zs = (o ++ [h * 16]).map let6) := by rw [henc]; rfl
          clear hHw' hHw henc hown hbel
          go_wp2_with (at_builtin; refine wpList_append_own _ rfl _ _ 22 rfl w.heap.size 5 i0 (.int .u8 0) 1 1 Try.underlying22 hi hz0 hz1 hz2 rfl (by decide) u3 o.length (vs (o.map let6)) rfl (HOW.out.alloc _) ⟨wr.heap.size, 0, none⟩ 1 1 [.int .u8 (let6 (h * 16))] rfl rfl (one_new _ _) (by simp [Value.oneCell']) (by unfold maxLen; omega) (by omega) (by simp; omega) ?_; intro v2 w2 how2 hgw2 _; have hcv := conv_own (own_snoc how2) (by simp); have Bw2 : Hid (Below w.heap.size w w2) := (HBE.out.alloc (by omega) _).grown hgw2 (by simp; omega) (own_block HOW.out); clear how2 hgw2)
          go_ret
          rw [HENC.out, List.map_append]
          exact ⟨rfl, Bw2.out⟩
        · have hHw' : H % 16 = h := hHw
          have ha : bits BinOp.and IntKind.u32 (H * 4 % 4294967296) 63 = h * 4 := by rw [and63 _ (by omega) (by omega)]; omega
          have hl := letter .u32 (h * 4) (by omega) (by omega)
          have HENC : Hid (enc zs = (o ++ [h * 4]).map let6) := by rw [henc]; rfl
          clear hHw' hHw henc hown hbel
          go_wp2_with (at_builtin; refine wpList_append_own _ rfl _ _ 22 rfl w.heap.size 5 i0 (.int .u8 0) 1 1 Try.underlying22 hi hz0 hz1 hz2 rfl (by decide) u3 o.length (vs (o.map let6)) rfl (HOW.out.alloc _) ⟨wr.heap.size, 0, none⟩ 1 1 [.int .u8 (let6 (h * 4))] rfl rfl (one_new _ _) (by simp [Value.oneCell']) (by unfold maxLen; omega) (by omega) (by simp; omega) ?_; intro v2 w2 how2 hgw2 _; have hcv := conv_own (own_snoc how2) (by simp); have Bw2 : Hid (Below w.heap.size w w2) := (HBE.out.alloc (by omega) _).grown hgw2 (by simp; omega) (own_block HOW.out); clear how2 hgw2)
          go_ret
          rw [HENC.out, List.map_append]
          exact ⟨rfl, Bw2.out⟩
end LW
end Go.Proofs.Ytbjelenmnlmodab
