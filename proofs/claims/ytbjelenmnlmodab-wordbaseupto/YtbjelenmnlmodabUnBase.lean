/-
  What the call UnBase64 (the program) gives: the bytes, a place, an error.
-/
import Derived.Test.YtbjelenmnlmodabLetters
import Derived.Test.YtbjelenmnlmodabUnHex
import Derived.Test.YtbjelenmnlmodabB64b
import Derived.LoopN
namespace Go.Proofs.Ytbjelenmnlmodab
open Go.RowKit
set_option linter.unusedVariables false
namespace B64
open Words Txt
/-- Letters alone, and as many as can be. -/
def bOk (l : List Int) : Bool := decide (bad bw l = l.length ∧ l.length % 4 ≠ 1)
/-- The bytes that are answered. -/
def bB (l : List Int) : List Int := if bOk l ∧ (D (l.map bw)).worth = 0 then (D (l.map bw)).out else []
/-- The place that is answered. -/
def bAt (l : List Int) : Int := if bOk l then (if (D (l.map bw)).worth = 0 then 0 else (l.length : Int) - 1) else bad bw l
/-- The error that is answered. -/
def bE (l : List Int) : Int := if bOk l ∧ (D (l.map bw)).worth = 0 then 0 else 4
theorem bOk_no {l : List Int} (h : ¬ (bad bw l = l.length ∧ l.length % 4 ≠ 1)) : bOk l = false := by simp only [bOk, decide_eq_false_iff_not]; exact h
theorem bOk_yes {l : List Int} (h1 : bad bw l = l.length) (h2 : l.length % 4 ≠ 1) : bOk l = true := by simp [bOk, h1, h2]
theorem D_take (l : List Int) (k : Nat) (h : k < l.length) : D ((l.take (k + 1)).map bw) = (D ((l.take k).map bw)).lett (bw (l.getD k 0)) := by
  rw [List.take_succ_eq_append_getElem h, List.map_append, List.map_cons, List.map_nil, D_snoc, List.getD_eq_getElem?_getD, List.getElem?_eq_getElem h]; rfl
theorem vals_ok (l : List Int) (k : Nat) (hk : k ≤ l.length) (h : ∀ j, j < k → bw (l.getD j 0) ≠ -1) : ∀ v ∈ (l.take k).map bw, 0 ≤ v ∧ v < 64 := by
  intro v hv
  simp only [List.mem_map] at hv
  obtain ⟨c, hc, rfl⟩ := hv
  obtain ⟨j, hj, rfl⟩ := List.getElem_of_mem hc
  have hj' : j < k := by simp at hj; omega
  have h1 := h j hj'
  have e : l.getD j 0 = (l.take k)[j] := by
    rw [List.getD_eq_getElem?_getD, List.getElem?_eq_getElem (by omega), List.getElem_take]; rfl
  rw [e] at h1
  have := bw_bd ((l.take k)[j])
  omega
theorem out_le {s : St} (h : s.Good8) (v : Int) (h0 : 0 ≤ v) (h1 : v < 64) : (s.lett v).out.length ≤ s.out.length + 1 := by
  obtain ⟨o, f, w⟩ := s
  obtain ⟨_, hf⟩ := h
  simp only at hf
  rcases hf with ⟨rfl, rfl⟩ | ⟨rfl, a, b⟩ | ⟨rfl, a, b⟩ | ⟨rfl, a, b⟩
  · rw [lett0 _ _ h0 h1]; simp
  · rw [lett6 _ _ _ h0 h1]; simp
  · rw [lett4 _ _ _ h0 h1]; simp
  · rw [lett2 _ _ _ h0 h1]; simp
theorem or6 (H v : Int) (h0 : 0 ≤ H) (h1 : H < 4294967296) (h2 : 0 ≤ v) (h3 : v < 64) : bits .or .u32 (H * 64 % 4294967296) v = H * 64 % 4294967296 + v := by
  obtain ⟨Z, rfl⟩ := Int.eq_ofNat_of_zero_le h2
  obtain ⟨X, hX⟩ := Int.eq_ofNat_of_zero_le (show 0 ≤ H * 64 % 4294967296 by omega)
  have hX2 : X % 2 ^ 6 = 0 := by omega
  rw [hX, u32_or_nat _ _ (by omega) (by omega), nat_join 6 _ _ hX2 (by omega)]
  omega
theorem and0 (x : Int) (h0 : 0 ≤ x) (h1 : x < 4294967296) : bits .and .u32 x 0 = 0 := by
  rw [u32_and x 0 h0 h1 (by omega) (by omega), show (0 : Int).toNat = 0 from rfl, Nat.and_zero]; rfl
theorem and3 (x : Int) (h0 : 0 ≤ x) (h1 : x < 4294967296) : bits .and .u32 x 3 = x % 4 := by
  rw [u32_and x 3 h0 h1 (by omega) (by omega), show (3 : Int).toNat = 3 from rfl, nat_mask2]; omega
theorem andF15 (x : Int) (h0 : 0 ≤ x) (h1 : x < 4294967296) : bits .and .u32 x 15 = x % 16 := by
  rw [u32_and x 15 h0 h1 (by omega) (by omega), show (15 : Int).toNat = 15 from rfl, nat_mask4]; omega
theorem and63' (x : Int) (h0 : 0 ≤ x) (h1 : x < 4294967296) : bits .and .u32 x 63 = x % 64 := by
  rw [u32_and x 63 h0 h1 (by omega) (by omega), show (63 : Int).toNat = 63 from rfl, nat_mask6]; omega
end B64
namespace LW
open Words Txt B64
theorem own_snocB {w : World} {B : Nat} {v : Value} {o : List Int} {x : Int} (h : w.ownsRow B 5 1 v (o.length + 1) (vs o ++ [.int .u8 x])) : w.ownsRow B 5 1 v (o ++ [x]).length (vs (o ++ [x])) := by
  simpa [vs] using h
set_option maxRecDepth 100000 in
set_option maxHeartbeats 3200000 in
theorem unbase (s : ByteArray) (w : World) (hs : s.size ≤ 8388608) :
    Calls Try.prog 19 #[.string s] w fun e w' => ∃ v, e = .returned (.tuple #[v, .int .i64 (bAt (sb s)), .int .i64 (bE (sb s))]) ∧
      w'.ownsRow w.heap.size 5 1 v (bB (sb s)).length (vs (bB (sb s))) ∧ Below w.heap.size w w' := by
  obtain ⟨i0, hi, hz0, hz1, hz2⟩ := info_parts info5
  have hst := fun W => stranger29 bw s W hs worth64
  have hbt := sb_byt s
  have hix := fun k h => index_s s k h hs
  have hlen := sb_length s
  have hle := bad_le bw (sb s)
  have hbef := bad_before bw (sb s)
  generalize sb s = l at *
  generalize hsz : s.size = n at *
  have HST := TW.hide hst
  have HB := TW.hide hbt
  have HI := TW.hide hix
  have HL := TW.hide hlen
  have HBE := TW.hide hbef
  clear hst hbt hix hbef
  rw [hlen] at hle
  by_cases h1 : bad bw l < n
  · have hno := bOk_no (l := l) (by omega)
    have e1 : bB l = [] := by simp [bB, hno]
    have e2 : bAt l = bad bw l := by simp [bAt, hno]
    have e3 : bE l = 4 := by simp [bE, hno]
    rw [e1, e2, e3]
    generalize bad bw l = b at *
    have h1I : (b : Int) < (n : Int) := by omega
    clear hlen hno e1 e2 e3
    go_enter Try.func19, Try.ntmps19
    go_wp2_with fail
    refine (HST.out _).mono ?_
    rintro e w' ⟨rfl, rfl⟩
    go_wp2_with fail
    go_ret3
    exact ⟨_, rfl, World.ownsRow_nil _ _ _ _, Below.refl _ _⟩
  · obtain hbn : bad bw l = n := by omega
    rw [hbn] at HST HBE
    by_cases h2 : n % 4 = 1
    · have hno := bOk_no (l := l) (by omega)
      have e1 : bB l = [] := by simp [bB, hno]
      have e2 : bAt l = n := by simp [bAt, hno, hbn]
      have e3 : bE l = 4 := by simp [bE, hno]
      rw [e1, e2, e3]
      have hn2 : ((n : Int) % 4) = 1 := by omega
      have htest : ((n : Int) % 4 == 1) = true := by simp [hn2]
      clear hlen hno e1 e2 e3 hle hbn h1
      go_enter Try.func19, Try.ntmps19
      go_wp2_with fail
      refine (HST.out _).mono ?_
      rintro e w' ⟨rfl, rfl⟩
      go_wp2_with fail
      go_ret3
      exact ⟨_, rfl, World.ownsRow_nil _ _ _ _, Below.refl _ _⟩
    · have hyes := bOk_yes (l := l) (by omega) (by omega)
      have htest : ((n : Int) % 4 == 1) = false := by simp; omega
      have HY := TW.hide hyes
      clear hlen hyes hle hbn h1
      go_enter Try.func19, Try.ntmps19
      go_wp2_with fail
      refine (HST.out _).mono ?_
      rintro e w' ⟨rfl, rfl⟩
      go_wp2_with (at_make; refine wpList_make_own _ rfl _ _ 22 rfl w.heap.size 5 i0 (.int .u8 0) 1 Try.underlying22 hi hz0 hz1 _ _ _ (n / 4 * 3 + n % 4 * 6 / 8) rfl rfl (by omega) (by rw [hz2]; omega) (by unfold maxLen; omega) (by omega) ?_; intro w1 hown hgrow)
      have hbel : Below w.heap.size w w1 := (Below.refl _ _).grown hgrow (Nat.le_refl _) (by intro k h; cases h)
      have G1 := TW.hide hown
      have G2 := TW.hide hbel
      clear hown hgrow hbel
      go_loopw [6, 7, 8, 36] (fun t hd fr i wr => ∃ (k : Nat) (H : Int), k ≤ n ∧ i = .int .i64 k ∧ hd = .int .u32 H ∧ 0 ≤ H ∧ H < 4294967296 ∧ fr = .int .i64 ((D ((l.take k).map bw)).have_ : Int) ∧ H % 2 ^ (D ((l.take k).map bw)).have_ = (D ((l.take k).map bw)).worth ∧ (D ((l.take k).map bw)).out.length ≤ k ∧ wr.ownsRow w.heap.size 5 1 t (D ((l.take k).map bw)).out.length (vs (D ((l.take k).map bw)).out) ∧ Below w.heap.size w wr) (fun _ _ _ i _ => n - (intOf i).toNat)
      case atStart => exact ⟨0, 0, Nat.zero_le _, rfl, rfl, by omega, by omega, rfl, rfl, by simp [D, st0], by simpa [vs, D, st0] using G1.out, G2.out⟩
      case round =>
        obtain ⟨k, H, hk, rfl, rfl, hH0, hH1, rfl, hHw, hol, hown, hbel⟩ := hrel
        clear G1 G2
        by_cases hlt : k < n
        · have hix := HI.out k hlt
          have hb := HB.out.get k
          have hne := HBE.out k hlt
          have hsn := D_take l k (by rw [HL.out]; exact hlt)
          have hg := good8_D (vals_ok l k (by rw [HL.out]; exact hk) fun j hj => HBE.out j (by omega))
          have hcl := fun W => worth64 (l.getD k 0) W hb.1 hb.2
          have hbd := bw_bd (l.getD k 0)
          have hsz := hbel.size
          generalize l.getD k 0 = c at *
          generalize bw c = v at *
          generalize D ((l.take k).map bw) = q at *
          obtain ⟨o, f, h⟩ := q
          obtain ⟨ho, hf⟩ := hg
          simp only at *
          have hv0 : 0 ≤ v := by omega
          have hv1 : v < 64 := by omega
          have hwv : IntKind.u32.wrap v = v := by rw [IntKind.wrap_u32']; omega
          obtain ⟨X, hX⟩ : ∃ X, H * 64 % 4294967296 + v = X := ⟨_, rfl⟩
          have hor := or6 H v hH0 hH1 hv0 hv1
          have hX0 : 0 ≤ X := by omega
          have hX1 : X < 4294967296 := by omega
          rw [hX] at hor
          have HCL := TW.hide hcl
          have HOW := TW.hide hown
          have HBL := TW.hide hbel
          clear hcl hown hbel hne hbd
          rcases hf with ⟨rfl, rfl⟩ | ⟨rfl, f1, f2⟩ | ⟨rfl, f1, f2⟩ | ⟨rfl, f1, f2⟩
          · have HSN : Hid (D ((l.take (k + 1)).map bw) = ⟨o, 6, v⟩) := by rw [hsn, lett0 _ _ hv0 hv1]; rfl
            have HMOD : Hid (X % 2 ^ 6 = v) := by show X % 64 = v; omega
            clear hsn hHw hX
            go_wp2_with fail
            refine (HCL.out _).mono ?_
            rintro e w' ⟨rfl, rfl⟩
            go_wp2_with fail
            go_roundw
            case rel => exact ⟨k + 1, X, by omega, by go_num, rfl, hX0, hX1, by rw [HSN.out]; rfl, by rw [HSN.out]; exact HMOD.out, by rw [HSN.out]; simp only; omega, by rw [HSN.out]; exact HOW.out, HBL.out⟩
            case measure => simp [intOf]; omega
          · have hHw' : H % 64 = h := hHw
            have HSN : Hid (D ((l.take (k + 1)).map bw) = ⟨o ++ [4 * h + v / 16], 4, v % 16⟩) := by rw [hsn, lett6 _ _ _ hv0 hv1]; rfl
            have HMOD : Hid (X % 2 ^ 4 = v % 16) := by show X % 16 = v % 16; omega
            have hby : X / 16 % 256 = 4 * h + v / 16 := by omega
            clear hsn hHw hHw' hX
            go_wp2_with fail
            refine (HCL.out _).mono ?_
            rintro e w' ⟨rfl, rfl⟩
            go_wp2_with (at_builtin; refine wpList_append_own _ rfl _ _ 22 rfl w.heap.size 5 i0 (.int .u8 0) 1 1 Try.underlying22 hi hz0 hz1 hz2 rfl (by decide) u6 o.length (vs o) rfl (HOW.out.alloc _) ⟨wr.heap.size, 0, none⟩ 1 1 [.int .u8 (4 * h + v / 16)] rfl rfl (one_new _ _) (by simp [Value.oneCell']) (by unfold maxLen; omega) (by omega) (by simp; omega) ?_; intro v2 w2 how2 hgw2 _; have Ow2 := TW.hide how2; have Bw2 : Hid (Below w.heap.size w w2) := (HBL.out.alloc (by omega) _).grown hgw2 (by simp; omega) (own_block HOW.out); clear how2 hgw2)
            go_roundw
            case rel => exact ⟨k + 1, X, by omega, by go_num, rfl, hX0, hX1, by rw [HSN.out]; rfl, by rw [HSN.out]; exact HMOD.out, by rw [HSN.out]; simp; omega, by rw [HSN.out]; exact own_snocB Ow2.out, Bw2.out⟩
            case measure => simp [intOf]; omega
          · have hHw' : H % 16 = h := hHw
            have HSN : Hid (D ((l.take (k + 1)).map bw) = ⟨o ++ [16 * h + v / 4], 2, v % 4⟩) := by rw [hsn, lett4 _ _ _ hv0 hv1]; rfl
            have HMOD : Hid (X % 2 ^ 2 = v % 4) := by show X % 4 = v % 4; omega
            have hby : X / 4 % 256 = 16 * h + v / 4 := by omega
            clear hsn hHw hHw' hX
            go_wp2_with fail
            refine (HCL.out _).mono ?_
            rintro e w' ⟨rfl, rfl⟩
            go_wp2_with (at_builtin; refine wpList_append_own _ rfl _ _ 22 rfl w.heap.size 5 i0 (.int .u8 0) 1 1 Try.underlying22 hi hz0 hz1 hz2 rfl (by decide) u6 o.length (vs o) rfl (HOW.out.alloc _) ⟨wr.heap.size, 0, none⟩ 1 1 [.int .u8 (16 * h + v / 4)] rfl rfl (one_new _ _) (by simp [Value.oneCell']) (by unfold maxLen; omega) (by omega) (by simp; omega) ?_; intro v2 w2 how2 hgw2 _; have Ow2 := TW.hide how2; have Bw2 : Hid (Below w.heap.size w w2) := (HBL.out.alloc (by omega) _).grown hgw2 (by simp; omega) (own_block HOW.out); clear how2 hgw2)
            go_roundw
            case rel => exact ⟨k + 1, X, by omega, by go_num, rfl, hX0, hX1, by rw [HSN.out]; rfl, by rw [HSN.out]; exact HMOD.out, by rw [HSN.out]; simp; omega, by rw [HSN.out]; exact own_snocB Ow2.out, Bw2.out⟩
            case measure => simp [intOf]; omega
          · have hHw' : H % 4 = h := hHw
            have HSN : Hid (D ((l.take (k + 1)).map bw) = ⟨o ++ [64 * h + v], 0, 0⟩) := by rw [hsn, lett2 _ _ _ hv0 hv1]; rfl
            have HMOD : Hid (X % 2 ^ 0 = 0) := by show X % 1 = 0; omega
            have hby : X % 256 = 64 * h + v := by omega
            clear hsn hHw hHw' hX
            go_wp2_with fail
            refine (HCL.out _).mono ?_
            rintro e w' ⟨rfl, rfl⟩
            go_wp2_with (at_builtin; refine wpList_append_own _ rfl _ _ 22 rfl w.heap.size 5 i0 (.int .u8 0) 1 1 Try.underlying22 hi hz0 hz1 hz2 rfl (by decide) u6 o.length (vs o) rfl (HOW.out.alloc _) ⟨wr.heap.size, 0, none⟩ 1 1 [.int .u8 (64 * h + v)] rfl rfl (one_new _ _) (by simp [Value.oneCell']) (by unfold maxLen; omega) (by omega) (by simp; omega) ?_; intro v2 w2 how2 hgw2 _; have Ow2 := TW.hide how2; have Bw2 : Hid (Below w.heap.size w w2) := (HBL.out.alloc (by omega) _).grown hgw2 (by simp; omega) (own_block HOW.out); clear how2 hgw2)
            go_roundw
            case rel => exact ⟨k + 1, X, by omega, by go_num, rfl, hX0, hX1, by rw [HSN.out]; rfl, by rw [HSN.out]; exact HMOD.out, by rw [HSN.out]; simp; omega, by rw [HSN.out]; exact own_snocB Ow2.out, Bw2.out⟩
            case measure => simp [intOf]; omega
        · obtain rfl : k = n := by omega
          have hE1 : bB l = if (D ((l.take k).map bw)).worth = 0 then (D ((l.take k).map bw)).out else [] := by
            rw [List.take_of_length_le (by rw [HL.out]; omega)]; simp [bB, HY.out]
          have hE2 : bAt l = if (D ((l.take k).map bw)).worth = 0 then 0 else (k : Int) - 1 := by
            rw [List.take_of_length_le (by rw [HL.out]; omega)]; simp [bAt, HY.out, HL.out]
          have hE3 : bE l = if (D ((l.take k).map bw)).worth = 0 then 0 else 4 := by
            rw [List.take_of_length_le (by rw [HL.out]; omega)]; simp [bE, HY.out]
          have hg := good8_D (vals_ok l k (by rw [HL.out]; exact hk) fun j hj => HBE.out j (by omega))
          generalize D ((l.take k).map bw) = q at *
          obtain ⟨o, f, h⟩ := q
          obtain ⟨ho, hf⟩ := hg
          simp only at *
          have HE1 := TW.hide hE1
          have HE2 := TW.hide hE2
          have HE3 := TW.hide hE3
          have HOW := TW.hide hown
          have HBL := TW.hide hbel
          clear hE1 hE2 hE3 hown hbel
          rcases hf with ⟨rfl, rfl⟩ | ⟨rfl, f1, f2⟩ | ⟨rfl, f1, f2⟩ | ⟨rfl, f1, f2⟩
          · have ha := and0 H hH0 hH1
            clear hHw
            go_wp2_with fail
            go_ret3
            rw [HE1.out, HE2.out, HE3.out]
            exact ⟨_, rfl, HOW.out, HBL.out⟩
          · have hHw' : H % 64 = h := hHw
            have ha := and63' H hH0 hH1
            rw [hHw'] at ha
            clear hHw hHw'
            by_cases hh : h = 0
            · have hhb : (h != 0) = false := by simp [hh]
              have HH := TW.hide hh
              clear hh
              go_wp2_with fail
              go_ret3
              rw [HE1.out, HE2.out, HE3.out, HH.out]
              exact ⟨_, rfl, HOW.out, HBL.out⟩
            · have hhb : (h != 0) = true := by simp [hh]
              have HH := TW.hide hh
              clear hh
              go_wp2_with fail
              go_ret3
              rw [HE1.out, HE2.out, HE3.out, if_neg HH.out, if_neg HH.out, if_neg HH.out]
              exact ⟨_, rfl, World.ownsRow_nil _ _ _ _, HBL.out⟩
          · have hHw' : H % 16 = h := hHw
            have ha := andF15 H hH0 hH1
            rw [hHw'] at ha
            clear hHw hHw'
            by_cases hh : h = 0
            · have hhb : (h != 0) = false := by simp [hh]
              have HH := TW.hide hh
              clear hh
              go_wp2_with fail
              go_ret3
              rw [HE1.out, HE2.out, HE3.out, HH.out]
              exact ⟨_, rfl, HOW.out, HBL.out⟩
            · have hhb : (h != 0) = true := by simp [hh]
              have HH := TW.hide hh
              clear hh
              go_wp2_with fail
              go_ret3
              rw [HE1.out, HE2.out, HE3.out, if_neg HH.out, if_neg HH.out, if_neg HH.out]
              exact ⟨_, rfl, World.ownsRow_nil _ _ _ _, HBL.out⟩
          · have hHw' : H % 4 = h := hHw
            have ha := and3 H hH0 hH1
            rw [hHw'] at ha
            clear hHw hHw'
            by_cases hh : h = 0
            · have hhb : (h != 0) = false := by simp [hh]
              have HH := TW.hide hh
              clear hh
              go_wp2_with fail
              go_ret3
              rw [HE1.out, HE2.out, HE3.out, HH.out]
              exact ⟨_, rfl, HOW.out, HBL.out⟩
            · have hhb : (h != 0) = true := by simp [hh]
              have HH := TW.hide hh
              clear hh
              go_wp2_with fail
              go_ret3
              rw [HE1.out, HE2.out, HE3.out, if_neg HH.out, if_neg HH.out, if_neg HH.out]
              exact ⟨_, rfl, World.ownsRow_nil _ _ _ _, HBL.out⟩
end LW
end Go.Proofs.Ytbjelenmnlmodab
