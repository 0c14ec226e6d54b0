/-
  The law's block and copied; noughts stay noughts.
-/
import Derived.Test.YtkgemkfajkcgcaaDoorRk3
namespace Go.Proofs.YtkgemkfajkcgcaaDoor
open Go.RowKit
set_option linter.unusedVariables false
set_option linter.unusedSimpArgs false
set_option maxRecDepth 100000
namespace LW
open Turn
open Words
attribute [local go_sem ↓] Go.wp_at_zero Go.wp_at_succ
theorem blL_zero : blL 0 0 0 0 = (0, 0, 0, 0) := by decide +kernel
theorem rep_getD (n i : Nat) : (List.replicate n (0 : Int)).getD i 0 = 0 := by
  rw [List.getD_eq_getElem?_getD, List.getElem?_replicate]
  split <;> rfl
theorem rep_set (n i : Nat) : (List.replicate n (0 : Int)).set i 0 = List.replicate n 0 := by
  apply List.ext_getElem?
  intro j
  rw [List.getElem?_set, List.getElem?_replicate, List.length_replicate]
  split <;> split <;> simp_all
theorem G4_zero (n p0 p1 p2 p3 : Nat) : G4 (List.replicate n 0) p0 p1 p2 p3 = List.replicate n 0 := by
  unfold G4
  rw [rep_getD, rep_getD, rep_getD, rep_getD, blL_zero]
  unfold put4
  simp only [rep_set]
theorem pmTo_zero (n i : Nat) : pmTo (List.replicate n 0) i = List.replicate n 0 := by
  induction i with
  | zero => rfl
  | succ i ih => rw [pmTo, ih, G4_zero]
theorem stN_zero (n : Nat) (PS : List Int) (m j : Nat) : stN (List.replicate n 0) PS (List.replicate m 0) j = List.replicate n 0 := by
  induction j with
  | zero => rfl
  | succ j ih => rw [stN, ih, rep_getD, rep_set]
theorem gaL_zero (n : Nat) (PS : List Int) : gaL (List.replicate n 0) PS = List.replicate 16 0 := by
  unfold gaL
  exact (mkL_congr fun i _ => rep_getD _ _).trans (mk0 16)
theorem thL_zero (n : Nat) (PS : List Int) : thL (List.replicate n 0) PS = List.replicate n 0 := by
  unfold thL pmL
  rw [gaL_zero, pmTo_zero, stN_zero]
theorem rwT_zero (n k : Nat) : rwT (List.replicate n 0) k = List.replicate n 0 := by
  induction k with
  | zero => rfl
  | succ k ih => rw [rwT, ih, thL_zero]
theorem clT_zero (n k : Nat) : clT (List.replicate n 0) k = List.replicate n 0 := by
  induction k with
  | zero => rfl
  | succ k ih => rw [clT, ih, thL_zero]
theorem rcL_zero (n : Nat) : rcL (List.replicate n 0) = List.replicate n 0 := by unfold rcL; rw [rwT_zero, clT_zero]
theorem bx_self (a : Int) (ha : 0 ≤ a ∧ a < 256) : bx a a = 0 := by
  obtain ⟨x, rfl⟩ := Int.eq_ofNat_of_zero_le ha.1
  rw [bx_nat _ _ (by omega) (by omega), Nat.xor_self]
  rfl
theorem xbL_self {x : List Int} (hx : Byt x) : xbL x x = List.replicate 1024 0 := by
  rw [← mk0]
  exact mkL_congr fun i _ => bx_self _ (hx.get i)
theorem wdL_zero : wdL (List.replicate 1024 0) = List.replicate 128 0 := by
  refine Eq.trans (mkL_congr fun i hi => ?_) (mk0 128)
  have e : (List.take 8 (List.drop (8 * i) (List.replicate 1024 (0 : Int)))) = List.replicate 8 0 := by
    rw [List.drop_replicate, List.take_replicate]
    congr 1
    omega
  rw [e]
  rfl
theorem byT_zero (n k : Nat) : byT (List.replicate n 0) k = List.replicate (8 * k) 0 := by
  induction k with
  | zero => rfl
  | succ k ih =>
    rw [byT, ih, rep_getD]
    have e : un 0 8 = List.replicate 8 0 := by decide
    rw [e, List.replicate_append_replicate]
    rfl
/-- The mix of a block with itself. -/
theorem mbL_self {x : List Int} (hx : Byt x) : mbL x x = List.replicate 1024 0 := by
  unfold mbL
  rw [xbL_self hx, wdL_zero, rcL_zero]
  have e : byL (List.replicate 128 0) = List.replicate 1024 0 := byT_zero 128 128
  rw [e]
  exact xbL_self (fun z hz => by rw [List.eq_of_mem_replicate hz]; decide)
theorem mbL_comm {x y : List Int} (hx : Byt x) (hy : Byt y) : mbL x y = mbL y x := by unfold mbL; rw [xbL_comm hx hy]
/-- The law's block: bytes of one's own out of a few. -/
def bkF (s : List Int) (i : Nat) : Int := if s = [] then ((i / 7 % 256 : Nat) : Int) else bx ((i / 7 % 256 : Nat) : Int) (s.getD (i % s.length) 0)
def blkL (s : List Int) : List Int := mkL 1024 (bkF s)
theorem blkL_length (s : List Int) : (blkL s).length = 1024 := mkL_length _ _
theorem bkF_bd {s : List Int} (hs : Byt s) (i : Nat) : 0 ≤ bkF s i ∧ bkF s i < 256 := by
  unfold bkF
  split
  · omega
  · exact bx_bd _ _ (by omega) (hs.get _)
theorem blkL_Byt {s : List Int} (hs : Byt s) : Byt (blkL s) := fun z hz => by
  obtain ⟨i, _, rfl⟩ := List.mem_map.1 hz
  exact bkF_bd hs i
theorem empty_own' (w : World) : (w.alloc (.cells #[] 5)).ownsRow w.heap.size 5 1 (.slice (some ⟨w.heap.size, 0, none⟩) 0 0) 0 (vs []) := by
  refine ⟨rfl, .inr ⟨w.heap.size, 0, #[], rfl, Nat.le_refl _, ?_, Nat.le_refl _, Nat.zero_le _, rfl, rfl⟩⟩
  show (w.heap.push _)[w.heap.size]? = _
  simp
set_option maxHeartbeats 2000000 in
theorem copied19 (a : Option Addr) (cap : Nat) (zs : List Int) (w : World) (hr : Row w a zs) (lz : zs.length = 1024) :
    Calls Tryd.prog 19 #[.slice a 1024 cap] w fun e w' => ∃ v, e = .returned v ∧ w'.ownsRow w.heap.size 5 1 v 1024 (vs zs) ∧ Below w.heap.size w w' := by
  obtain ⟨i0, hi, hz0, hz1, hz2⟩ := info_parts info5
  rcases hr with h0 | ⟨rb, ro, rfl, hrc⟩
  · rw [h0] at lz; cases lz
  have HRW : Hid (Row w (some ⟨rb, ro, none⟩) zs) := .inr ⟨rb, ro, rfl, hrc⟩
  have hb1 : Below w.heap.size w (w.alloc (.cells #[] 5)) := (Below.refl _ _).alloc (Nat.le_refl _) _
  have HC := TW.hide (row_cells HRW.out hb1)
  have HE := TW.hide (empty_own' w)
  have HB1 := TW.hide hb1
  have HOC := TW.hide (oneCell_vs zs)
  have HL : Hid ((vs zs).length = 1024) := by show _ = _; rw [vs_length, lz]
  clear hrc hb1 lz
  go_enter Tryd.func19, Tryd.ntmps19
  go_wp2_with (at_builtin; refine wpList_append_own _ rfl _ _ 31 rfl w.heap.size 5 i0 (.int .u8 0) 1 1 Tryd.underlying31 hi hz0 hz1 hz2 rfl (by decide) _ _ _ rfl HE.out ⟨rb, ro, none⟩ 1024 cap (vs zs) rfl (by rw [Nat.mul_one]; exact HL.out) HC.out HOC.out (by unfold maxLen; omega) (by omega) (by simp) ?_; intro v' w2 hown' hgrow' _; have H1 := TW.hide hown'; have H2 := TW.hide hgrow'; clear hown' hgrow')
  have hbe : Below w.heap.size w w2 := HB1.out.grown H2.out (by simp) (own_block HE.out)
  have ho : w2.ownsRow w.heap.size 5 1 v' 1024 (vs zs) := H1.out
  go_ret
  exact ⟨_, rfl, ho, hbe⟩
set_option maxHeartbeats 4000000 in
theorem lblock (a : Option Addr) (cap : Nat) (s : List Int) (w : World) (hs : Byt s) (hr : Row w a s) (hm : s.length ≤ maxLen) :
    Calls Tryd.prog 18 #[.slice a s.length cap] w fun e w' => ∃ v, e = .returned v ∧ w'.ownsRow w.heap.size 5 1 v 1024 (vs (blkL s)) ∧ Below w.heap.size w w' := by
  obtain ⟨i0, hi, hz0, hz1, hz2⟩ := info_parts info5
  by_cases hse : s = []
  · have hbk : ∀ k, bkF s k = ((k / 7 % 256 : Nat) : Int) := fun k => if_pos hse
    have kl : s.length = 0 := by rw [hse]; rfl
    rw [kl]
    clear hr hm kl hse
    go_enter Tryd.func18, Tryd.ntmps18
    go_wp2
    go_loopw [3, 4] (fun b i wr => ∃ k : Nat, k ≤ 1024 ∧ i = .int .i64 k ∧ Hid (wr.ownsRow w.heap.size 5 1 b k (vs ((blkL s).take k))) ∧ Hid (Below w.heap.size w wr)) (fun b i _ => 1024 - (intOf i).toNat)
    case atStart => exact ⟨0, Nat.zero_le _, rfl, World.ownsRow_nil _ _ _ _, Below.refl _ _⟩
    case round =>
      obtain ⟨k, hk, rfl, HO, NB⟩ := hrel
      by_cases hlt : k < 1024
      · have q1 : (k : Int) < 1024 := by omega
        have q0 : (0 : Int) ≤ (k : Int) := by omega
        have htk : (blkL s).take (k + 1) = (blkL s).take k ++ [bkF s k] := by
          rw [take_snoc _ _ (by rw [blkL_length]; exact hlt)]
          unfold blkL
          rw [mkL_getD _ hlt]
        have e1 : (k : Int).tdiv 7 = ((k / 7 : Nat) : Int) := by rw [Int.tdiv_eq_ediv_of_nonneg (by omega)]; omega
        have e2 : IntKind.u8.wrap ((k / 7 : Nat) : Int) = ((k / 7 % 256 : Nat) : Int) := by rw [IntKind.wrap_u8']; omega
        have e3 : IntKind.i64.wrap ((k / 7 : Nat) : Int) = ((k / 7 : Nat) : Int) := by rw [IntKind.wrap_i64]; omega
        rw [hbk k] at htk
        generalize (blkL s).take k = ll at *
        generalize ((k / 7 % 256 : Nat) : Int) = z at *
        generalize ((k / 7 : Nat) : Int) = d at *
        have HTK := TW.hide htk
        have HLT : Hid (k < 1024) := hlt
        clear htk hlt hk
        have HOA := TW.hide (HO.out.alloc (.cells #[.int .u8 z] 5))
        have HNB := TW.hide (NB.out.alloc NB.out.size (.cells #[.int .u8 z] 5))
        have HSA : Hid (w.heap.size ≤ (wr.alloc (.cells #[.int .u8 z] 5)).heap.size) := HNB.out.size
        have HC := TW.hide (one_new wr (.int .u8 z))
        go_wp2_with (at_builtin; refine wpList_append_own _ rfl _ _ 31 rfl w.heap.size 5 i0 (.int .u8 0) 1 1 Tryd.underlying31 hi hz0 hz1 hz2 rfl (by decide) _ _ _ rfl HOA.out ⟨wr.heap.size, 0, none⟩ 1 1 [.int .u8 z] rfl rfl HC.out (by intro u hu; simp at hu; subst hu; rfl) (by have := HLT.out; unfold maxLen; omega) (by have := HLT.out; omega) HSA.out ?_; intro v' w3 hown' hgrow' _; have HO3 := TW.hide hown'; have HG3 := TW.hide hgrow'; clear hown' hgrow')
        have NB3 : Hid (Below w.heap.size w w3) := HNB.out.grown HG3.out HSA.out (own_block HOA.out)
        have HO4 : Hid (w3.ownsRow w.heap.size 5 1 v' (k + 1) (vs ((blkL s).take (k + 1)))) := by show World.ownsRow _ _ _ _ _ _ _; rw [HTK.out, vs_append]; exact HO3.out
        clear HOA HNB HSA HC HG3 HO3 HO NB
        go_wp2
        go_roundw
        case rel => exact ⟨k + 1, HLT.out, by go_num, HO4, NB3⟩
        case measure => simp [intOf]; have := HLT.out; omega
      · obtain rfl : k = 1024 := by omega
        have HO9 : Hid (wr.ownsRow w.heap.size 5 1 u3 1024 (vs (blkL s))) := by
          have h := HO.out
          rw [List.take_of_length_le (by rw [blkL_length]; omega)] at h
          exact h
        clear HO
        go_wp2
        go_ret
        exact ⟨_, rfl, HO9.out, NB.out⟩
  · have hbk : ∀ k, bkF s k = bx ((k / 7 % 256 : Nat) : Int) (s.getD (k % s.length) 0) := fun k => if_neg hse
    have hlp : 0 < s.length := List.length_pos_iff.2 hse
    rcases hr with h0 | ⟨rb, ro, rfl, hrc⟩
    · exact absurd h0 hse
    obtain ⟨sl, hsl⟩ : ∃ n, s.length = n := ⟨_, rfl⟩
    rw [hsl] at hbk hlp hm hrc ⊢
    have HRC : Hid (∀ X, Below w.heap.size w X → ∀ i, i < sl → X.cell? ⟨rb, ro + i, none⟩ = some (.int .u8 (s.getD i 0))) := fun X hX i hi => by
      have h := hrc i hi
      rw [hX.cell (lt_of_cell h)]; exact h
    have hm2 : sl ≤ 9223372036854775807 := hm
    clear hrc hm hsl hse
    go_enter Tryd.func18, Tryd.ntmps18
    go_wp2
    go_loopw [3, 4] (fun b i wr => ∃ k : Nat, k ≤ 1024 ∧ i = .int .i64 k ∧ Hid (wr.ownsRow w.heap.size 5 1 b k (vs ((blkL s).take k))) ∧ Hid (Below w.heap.size w wr)) (fun b i _ => 1024 - (intOf i).toNat)
    case atStart => exact ⟨0, Nat.zero_le _, rfl, World.ownsRow_nil _ _ _ _, Below.refl _ _⟩
    case round =>
      obtain ⟨k, hk, rfl, HO, NB⟩ := hrel
      by_cases hlt : k < 1024
      · have q1 : (k : Int) < 1024 := by omega
        have q0 : (0 : Int) ≤ (k : Int) := by omega
        have htk : (blkL s).take (k + 1) = (blkL s).take k ++ [bkF s k] := by
          rw [take_snoc _ _ (by rw [blkL_length]; exact hlt)]
          unfold blkL
          rw [mkL_getD _ hlt]
        have e1 : (k : Int).tdiv 7 = ((k / 7 : Nat) : Int) := by rw [Int.tdiv_eq_ediv_of_nonneg (by omega)]; omega
        have e2 : IntKind.u8.wrap ((k / 7 : Nat) : Int) = ((k / 7 % 256 : Nat) : Int) := by rw [IntKind.wrap_u8']; omega
        have e3 : IntKind.i64.wrap ((k / 7 : Nat) : Int) = ((k / 7 : Nat) : Int) := by rw [IntKind.wrap_i64]; omega
        have hz := hbk k
        obtain ⟨p, hp⟩ : ∃ p, k % sl = p := ⟨_, rfl⟩
        have hps : p < sl := by rw [← hp]; exact Nat.mod_lt _ hlp
        have e4 : (k : Int).tmod (sl : Int) = (p : Int) := by
          rw [Int.tmod_eq_emod_of_nonneg (by omega), ← hp]
          simp
        rw [hp] at hz
        have cc := HRC.out wr NB.out p hps
        have q2 : (p : Int) < (sl : Int) := by omega
        have q3 : (0 : Int) ≤ (p : Int) := by omega
        have q4 : (0 : Int) < (sl : Int) := by omega
        have q5 : ((sl : Int) == 0) = false := by simp; omega
        generalize s.getD p 0 = sp at *
        unfold bx at hz
        have hz' := hz.symm
        clear hz hp hps
        generalize (blkL s).take k = ll at *
        generalize bkF s k = z at *
        generalize ((k / 7 % 256 : Nat) : Int) = c at *
        generalize ((k / 7 : Nat) : Int) = d at *
        have HTK := TW.hide htk
        have HLT : Hid (k < 1024) := hlt
        clear htk hlt hk
        have HOA := TW.hide (HO.out.alloc (.cells #[.int .u8 z] 5))
        have HNB := TW.hide (NB.out.alloc NB.out.size (.cells #[.int .u8 z] 5))
        have HSA : Hid (w.heap.size ≤ (wr.alloc (.cells #[.int .u8 z] 5)).heap.size) := HNB.out.size
        have HC := TW.hide (one_new wr (.int .u8 z))
        go_wp2_with (at_builtin; refine wpList_append_own _ rfl _ _ 31 rfl w.heap.size 5 i0 (.int .u8 0) 1 1 Tryd.underlying31 hi hz0 hz1 hz2 rfl (by decide) _ _ _ rfl HOA.out ⟨wr.heap.size, 0, none⟩ 1 1 [.int .u8 z] rfl rfl HC.out (by intro u hu; simp at hu; subst hu; rfl) (by have := HLT.out; unfold maxLen; omega) (by have := HLT.out; omega) HSA.out ?_; intro v' w3 hown' hgrow' _; have HO3 := TW.hide hown'; have HG3 := TW.hide hgrow'; clear hown' hgrow')
        have NB3 : Hid (Below w.heap.size w w3) := HNB.out.grown HG3.out HSA.out (own_block HOA.out)
        have HO4 : Hid (w3.ownsRow w.heap.size 5 1 v' (k + 1) (vs ((blkL s).take (k + 1)))) := by show World.ownsRow _ _ _ _ _ _ _; rw [HTK.out, vs_append]; exact HO3.out
        clear HOA HNB HSA HC HG3 HO3 HO NB
        go_wp2
        go_roundw
        case rel => exact ⟨k + 1, HLT.out, by go_num, HO4, NB3⟩
        case measure => simp [intOf]; have := HLT.out; omega
      · obtain rfl : k = 1024 := by omega
        have HO9 : Hid (wr.ownsRow w.heap.size 5 1 u3 1024 (vs (blkL s))) := by
          have h := HO.out
          rw [List.take_of_length_le (by rw [blkL_length]; omega)] at h
          exact h
        clear HO
        go_wp2
        go_ret
        exact ⟨_, rfl, HO9.out, NB.out⟩
end LW
end Go.Proofs.YtkgemkfajkcgcaaDoor
