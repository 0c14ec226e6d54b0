/-
  Decode and Encode (the program's), what one tells of the other, the laws' call alive.
-/
import Derived.Test.YteakoajkmcbilabDoorPlace
import Derived.Test.YteakoajkmcbilabDoorCheck
import Derived.Test.YteakoajkmcbilabDoorUnif
import Derived.Laws.OwnMore
import Derived.Laws.CopyOwn
namespace Go.Proofs.YteakoajkmcbilabDoor
open Go.RowKit
set_option linter.unusedVariables false
namespace LW
open Words
/-- The error of a block's length. -/
def cl (kd : Int) (n : Nat) : Int := if kd ≠ 1 ∧ kd ≠ 2 then 1 else if (n : Int) < mo kd then 3 else if mo kd < (n : Int) then 2 else 0
/-- The error of a block and a field. -/
def cf (kd : Int) (n : Nat) (f : Int) : Int := if cl kd n ≠ 0 then cl kd n else if f < 1 ∨ 9 < f then 1 else 0
theorem lens (kd : Int) : (kd ≠ 1 ∧ kd ≠ 2 ∧ mo kd = 0 ∧ ke kd = 1) ∨ (¬ (kd ≠ 1 ∧ kd ≠ 2) ∧ ¬ mo kd = 0 ∧ ke kd = 0) := by
  rcases kinds kd with rfl | rfl | ⟨h1, h2⟩
  · exact .inr ⟨by omega, by decide, by decide⟩
  · exact .inr ⟨by omega, by decide, by decide⟩
  · exact .inl ⟨h1, h2, by simp [mo, h1, h2], by simp [ke, h1, h2]⟩
set_option maxHeartbeats 1000000 in
theorem checkLength (kd : Int) (a : Option Addr) (n cap : Nat) (w : World) :
    Calls Tryd.prog 49 #[.int .i64 kd, .slice a n cap] w fun e w' => e = .returned (.int .i64 (cl kd n)) ∧ Below w.heap.size w w' := by
  have h := fun W => size kd W
  obtain ⟨r, hr⟩ : ∃ r, cl kd n = r := ⟨_, rfl⟩
  rw [hr]
  rcases lens kd with ⟨h1, h2, em, e0⟩ | ⟨h1, em, e0⟩
  · simp only [cl, h1, h2, ne_eq, not_false_eq_true, and_self, if_true] at hr
    rw [e0] at h
    have H := TW.hide h
    clear h h1 h2
    go_enter Tryd.func49, Tryd.ntmps49
    go_wp2_with fail
    refine (H.out _).mono ?_
    rintro e w1 ⟨rfl, hb⟩
    have HB := TW.hide hb
    clear hb
    go_wp2_with fail
    go_ret
    exact ⟨TW.ret_int rfl, HB.out⟩
  · simp only [cl, h1, if_false] at hr
    rw [e0] at h
    generalize mo kd = m at *
    have H := TW.hide h
    clear h h1
    have c3 : (decide ((n : Int) < m) = true ∧ r = 3) ∨ (decide ((n : Int) < m) = false ∧ decide (m < (n : Int)) = true ∧ r = 2) ∨ (decide ((n : Int) < m) = false ∧ decide (m < (n : Int)) = false ∧ r = 0) := by
      by_cases g1 : (n : Int) < m
      · exact .inl ⟨by simp [g1], by simp [g1] at hr; omega⟩
      · by_cases g2 : m < (n : Int)
        · exact .inr (.inl ⟨by simp; omega, by simp [g2], by simp [g1, g2] at hr; omega⟩)
        · exact .inr (.inr ⟨by simp; omega, by simp; omega, by simp [g1, g2] at hr; omega⟩)
    clear hr
    rcases c3 with ⟨c3, rfl⟩ | ⟨c3, c4, rfl⟩ | ⟨c3, c4, rfl⟩
    all_goals
      go_enter Tryd.func49, Tryd.ntmps49
      go_wp2_with fail
      refine (H.out _).mono ?_
      rintro e w1 ⟨rfl, hb⟩
      have HB := TW.hide hb
      clear hb
      go_wp2_with fail
      go_ret
      exact ⟨rfl, HB.out⟩
end LW
end Go.Proofs.YteakoajkmcbilabDoor
namespace Go.Proofs.YteakoajkmcbilabDoor
open Go.RowKit
set_option linter.unusedVariables false
namespace LW
open Words
set_option maxHeartbeats 2000000 in
theorem spanLoad (a : Option Addr) (cap : Nat) (zs : List Int) (j n : Nat) (w : World) (hz : Byt zs) (hr : Row w a zs) (hm : zs.length ≤ maxLen) (hn : 1 ≤ n) (hn8 : n ≤ 8) (hl : j + n ≤ zs.length) :
    Calls Tryd.prog 52 #[.agg #[.int .i64 j, .int .i64 n], .slice a zs.length cap] w fun e w' =>
      e = .returned (.int .u64 (le ((zs.drop j).take n))) ∧ Below w.heap.size w w' := by
  unfold maxLen at hm
  rcases hr with rfl | ⟨b, off, rfl, hcell⟩
  · simp at hl; omega
  · have hL := (hz.drop j).take n
    have hlen : ((zs.drop j).take n).length = n := by simp; omega
    have hget : ∀ k, k < n → w.cell? ⟨b, off + (j + k), none⟩ = some (.int .u8 (((zs.drop j).take n).getD k 0)) := by
      intro k hk
      rw [hcell (j + k) (by omega)]
      simp [List.getD_eq_getElem?_getD, List.getElem?_drop, hk]
    have hbw : b < w.heap.size := lt_of_cell (hcell j (by omega))
    have hor := le_or ((zs.drop j).take n)
    generalize (zs.drop j).take n = L at *
    generalize zs.length = len at *
    clear hcell hz
    have hb := (Below.refl w.heap.size w).alloc (Nat.le_refl _) (.cells #[.int .i64 j, .int .i64 n] 60)
    have n0 := heap_alloc_new w (.cells #[.int .i64 j, .int .i64 n] 60)
    have hget' : ∀ k, k < n → (w.alloc (.cells #[.int .i64 j, .int .i64 n] 60)).cell? ⟨b, off + (j + k), none⟩ = some (.int .u8 (L.getD k 0)) := fun k hk => by rw [hb.cell hbw]; exact hget k hk
    clear hget
    have HL := TW.hide hL
    have HN := TW.hide hlen
    have HO := TW.hide hor
    clear hL hlen hor
    go_enter Tryd.func52, Tryd.ntmps52
    go_wp2
    generalize w.alloc (.cells #[.int .i64 j, .int .i64 n] 60) = W at hb n0 hget' ⊢
    have c0 := blk_cell n0 (i := 0) (v := .int .i64 j) rfl
    have HG := TW.hide hget'
    have HB := TW.hide hb
    clear hget' hb n0
    go_loop [5, 9] (fun v i => ∃ k : Nat, k ≤ n ∧ i = .int .i64 k ∧ v = .int .u64 (le (L.take k))) (fun _ i => n - (intOf i).toNat)
    case atStart => exact ⟨0, Nat.zero_le _, rfl, rfl⟩
    case round =>
      obtain ⟨k, hk, rfl, rfl⟩ := hrel
      by_cases hlt : k < n
      · have hc := HG.out k hlt
        have hb := HL.out.get k
        have hf := HO.out k HL.out (by rw [HN.out]; omega) (by omega)
        generalize L.getD k 0 = z at *
        obtain ⟨hb1, hb2⟩ := hb
        have hwz : IntKind.u64.wrap z = z := by rw [IntKind.wrap_u64]; omega
        have HF : Hid (bits BinOp.or IntKind.u64 (le (List.take k L)) (IntKind.u64.wrap (z * 2 ^ (8 * k))) = le (List.take (k + 1) L)) := hf
        clear hf
        have hjk : IntKind.i64.wrap ((j : Int) + (k : Int)) = ((j + k : Nat) : Int) := by rw [IntKind.wrap_i64]; omega
        go_wp2
        go_round
        case rel => exact ⟨k + 1, by omega, by go_num, by rw [HF.out]⟩
        case measure => simp [intOf]; omega
      · go_wp2
        go_ret
        exact ⟨TW.ret_int (by rw [List.take_of_length_le (by rw [HN.out]; omega)]), HB.out⟩
theorem or_low (x z : Int) (hx : 0 ≤ x) (hz : 0 ≤ z) (hz' : z < 256) (h : x * 256 + z < 18446744073709551616) : bits .or .u64 (IntKind.u64.wrap (x * 256)) z = x * 256 + z := by
  rw [IntKind.wrap_u64, Int.emod_eq_of_lt (by omega) (by omega)]
  obtain ⟨X, rfl⟩ := Int.eq_ofNat_of_zero_le hx
  obtain ⟨Z, rfl⟩ := Int.eq_ofNat_of_zero_le hz
  have e1 : ((X : Int) * 256) = ((X * 2 ^ 8 : Nat) : Int) := by omega
  rw [e1, u64_or_nat _ _ (by omega) (by omega), nat_join 8 _ _ (by simp) (by omega)]
  omega
end LW
end Go.Proofs.YteakoajkmcbilabDoor
namespace Go.Proofs.YteakoajkmcbilabDoor
open Go.RowKit
set_option linter.unusedVariables false
namespace LW
open Words
/-- A field's place and bytes, as numbers. -/
def fA (kd f : Int) : Nat := (rAt kd f).toNat
def fS (kd f : Int) : Nat := (rSz kd f).toNat
theorem fits (kd f : Int) (hk : kd = 1 ∨ kd = 2) (h1 : 1 ≤ f) (h9 : f ≤ 9) : rAt kd f = (fA kd f : Int) ∧ rSz kd f = (fS kd f : Int) ∧ 1 ≤ fS kd f ∧ fS kd f ≤ 8 ∧ ((fA kd f + fS kd f : Nat) : Int) ≤ mo kd := by
  have hf : f = 1 ∨ f = 2 ∨ f = 3 ∨ f = 4 ∨ f = 5 ∨ f = 6 ∨ f = 7 ∨ f = 8 ∨ f = 9 := by omega
  rcases hk with rfl | rfl <;> rcases hf with rfl | rfl | rfl | rfl | rfl | rfl | rfl | rfl | rfl <;> decide
/-- The number in a field. -/
def gv (kd f : Int) (zs : List Int) : Int := le ((zs.drop (fA kd f)).take (fS kd f))
theorem cf_zero {kd f : Int} {n : Nat} (h : cf kd n f = 0) : (kd = 1 ∨ kd = 2) ∧ (n : Int) = mo kd ∧ 1 ≤ f ∧ f ≤ 9 ∧ cl kd n = 0 := by
  unfold cf at h
  split at h
  · contradiction
  · rename_i hc
    split at h
    · omega
    · have hc' : cl kd n = 0 := by omega
      refine ⟨?_, ?_, by omega, by omega, hc'⟩
      · unfold cl at hc'
        split at hc'
        · omega
        · omega
      · unfold cl at hc'
        repeat' split at hc'
        all_goals omega
/-- What Get tells. -/
def gt (kd f : Int) (zs : List Int) : Int := if cf kd zs.length f = 0 then gv kd f zs else 0
theorem cf_cases {kd f : Int} {n : Nat} (h : ¬ cf kd n f = 0) : (¬ cl kd n = 0 ∧ cf kd n f = cl kd n) ∨ (cl kd n = 0 ∧ (kd = 1 ∨ kd = 2) ∧ (f < 1 ∨ 9 < f) ∧ cf kd n f = 1) := by
  unfold cf at *
  by_cases hc : cl kd n = 0
  · right
    have hk : kd = 1 ∨ kd = 2 := by
      unfold cl at hc
      split at hc
      · omega
      · omega
    simp only [hc, ne_eq, not_true_eq_false, if_false] at h ⊢
    by_cases hf : f < 1 ∨ 9 < f
    · simp [hf, hk]
    · simp [hf] at h
  · left; simp [hc]
end LW
end Go.Proofs.YteakoajkmcbilabDoor
namespace Go.Proofs.YteakoajkmcbilabDoor
open Go.RowKit
set_option linter.unusedVariables false
set_option linter.unusedSimpArgs false
namespace LW
open Words
theorem Row.sub {w : World} {b off : Nat} {zs : List Int} (h : Row w (some ⟨b, off, none⟩) zs) (j n : Nat) (hl : j + n ≤ zs.length) : Row w (some ⟨b, off + j, none⟩) ((zs.drop j).take n) := by
  rcases h with h | ⟨b', off', e, hc⟩
  · subst h
    have : n = 0 := by simp at hl; omega
    subst this
    exact .inl rfl
  · cases e
    refine .inr ⟨b, off + j, rfl, fun i hi => ?_⟩
    have hi' : i < n := by simp at hi; omega
    rw [show off + j + i = off + (j + i) by omega, hc (j + i) (by omega)]
    simp [List.getD_eq_getElem?_getD, List.getElem?_drop, hi']
theorem sub_length (zs : List Int) (j n : Nat) (h : j + n ≤ zs.length) : ((zs.drop j).take n).length = n := by simp; omega
/-- The number of a field of a block, in one of the forms. -/
def fV (kd : Int) (x : Bool) (zs : List Int) (f : Int) : Int := le ((zs.drop (rAt kd f).toNat).take (pSz kd f x).toNat)
/-- All nine. -/
def dP (kd : Int) (x : Bool) (zs : List Int) : Pm := ⟨fV kd x zs 1, fV kd x zs 2, fV kd x zs 3, fV kd x zs 4, fV kd x zs 5, fV kd x zs 6, fV kd x zs 7, fV kd x zs 8, fV kd x zs 9⟩
theorem pFits (kd f : Int) (x : Bool) (hk : kd = 1 ∨ kd = 2) (h1 : 1 ≤ f) (h9 : f ≤ 9) : rAt kd f = ((rAt kd f).toNat : Int) ∧ pSz kd f x = ((pSz kd f x).toNat : Int) ∧ (pSz kd f x).toNat ≤ 8 ∧ (((rAt kd f).toNat + (pSz kd f x).toNat : Nat) : Int) ≤ mo kd ∧
    (f ≠ 6 → (pSz kd f x).toNat ≤ 4) ∧ (f ≠ 6 → f ≠ 5 → f ≠ 7 → (pSz kd f x).toNat ≤ 1) ∧ ((pSz kd f x).toNat = 0 → f = 7 ∧ x = false) := by
  have hf : f = 1 ∨ f = 2 ∨ f = 3 ∨ f = 4 ∨ f = 5 ∨ f = 6 ∨ f = 7 ∨ f = 8 ∨ f = 9 := by omega
  rcases hk with rfl | rfl <;> rcases hf with rfl | rfl | rfl | rfl | rfl | rfl | rfl | rfl | rfl <;> cases x <;> decide
theorem fV_bd (kd f : Int) (x : Bool) (zs : List Int) (hz : Byt zs) (hk : kd = 1 ∨ kd = 2) (h1 : 1 ≤ f) (h9 : f ≤ 9) :
    0 ≤ fV kd x zs f ∧ fV kd x zs f < 18446744073709551616 ∧ (f ≠ 6 → fV kd x zs f < 4294967296) ∧ (f ≠ 6 → f ≠ 5 → f ≠ 7 → fV kd x zs f ≤ 255) := by
  obtain ⟨_, _, h8, _, h4, h5, _⟩ := pFits kd f x hk h1 h9
  have hb := le_bd (l := (zs.drop (rAt kd f).toNat).take (pSz kd f x).toNat) ((hz.drop _).take _)
  have hl : ((zs.drop (rAt kd f).toNat).take (pSz kd f x).toNat).length ≤ (pSz kd f x).toNat := by simp; omega
  unfold fV
  generalize (zs.drop (rAt kd f).toNat).take (pSz kd f x).toNat = L at *
  generalize (pSz kd f x).toNat = n at *
  have mono : ∀ m, n ≤ m → (256 : Int) ^ L.length ≤ 256 ^ m := fun m hm => by
    have := Nat.pow_le_pow_right (n := 256) (by decide) (show L.length ≤ m by omega)
    have h := Int.ofNat_le.2 this
    rw [Int.natCast_pow, Int.natCast_pow] at h
    exact h
  refine ⟨hb.1, ?_, fun h => ?_, fun a b c => ?_⟩
  · have := mono 8 h8
    have e : (256 : Int) ^ 8 = 18446744073709551616 := by decide
    omega
  · have := mono 4 (h4 h)
    have e : (256 : Int) ^ 4 = 4294967296 := by decide
    omega
  · have := mono 1 (h5 a b c)
    have e : (256 : Int) ^ 1 = 256 := by decide
    omega
theorem dP_Ok (kd : Int) (x : Bool) (zs : List Int) (hz : Byt zs) (hk : kd = 1 ∨ kd = 2) : (dP kd x zs).Ok := by
  have h5 := fV_bd kd 5 x zs hz hk (by omega) (by omega)
  have h6 := fV_bd kd 6 x zs hz hk (by omega) (by omega)
  have h7 := fV_bd kd 7 x zs hz hk (by omega) (by omega)
  exact ⟨h6.1, h6.2.1, h7.1, h7.2.2.1 (by decide), h5.1, h5.2.2.1 (by decide)⟩
/-- The first of the nine numbers, noughts behind them. -/
def upP (p : Pm) (k : Nat) : Pm := ⟨if 1 < k then p.d else 0, if 2 < k then p.k else 0, if 3 < k then p.f else 0, if 4 < k then p.dp else 0, if 5 < k then p.lf else 0, if 6 < k then p.off else 0, if 7 < k then p.xof else 0, if 8 < k then p.nd else 0, if 9 < k then p.inn else 0⟩
theorem upP_set (p : Pm) (k : Nat) (S T : Value) (h1 : 1 ≤ k) (h9 : k ≤ 9) : (pcP (upP p k) S T).setIfInBounds ((k : Int) - 1).toNat (nk k (p.nv k)) = pcP (upP p (k + 1)) S T := by
  have hf : k = 1 ∨ k = 2 ∨ k = 3 ∨ k = 4 ∨ k = 5 ∨ k = 6 ∨ k = 7 ∨ k = 8 ∨ k = 9 := by omega
  rcases hf with rfl | rfl | rfl | rfl | rfl | rfl | rfl | rfl | rfl <;> rfl
theorem upP_one (p : Pm) : upP p 1 = Pm.zero := rfl
theorem upP_ten (p : Pm) : upP p 10 = p := rfl
theorem dP_nv (kd : Int) (x : Bool) (zs : List Int) (f : Int) (h1 : 1 ≤ f) (h9 : f ≤ 9) : (dP kd x zs).nv f = fV kd x zs f := by
  have hf : f = 1 ∨ f = 2 ∨ f = 3 ∨ f = 4 ∨ f = 5 ∨ f = 6 ∨ f = 7 ∨ f = 8 ∨ f = 9 := by omega
  rcases hf with rfl | rfl | rfl | rfl | rfl | rfl | rfl | rfl | rfl <;> rfl
set_option maxHeartbeats 2000000 in
theorem spanLoad0 (a : Option Addr) (len cap j : Nat) (w : World) :
    Calls Tryd.prog 52 #[.agg #[.int .i64 j, .int .i64 0], .slice a len cap] w fun e w' => e = .returned (.int .u64 0) ∧ Below w.heap.size w w' := by
  have hb := (Below.refl w.heap.size w).alloc (Nat.le_refl _) (.cells #[.int .i64 j, .int .i64 0] 60)
  go_enter Tryd.func52, Tryd.ntmps52
  go_wp2
  generalize w.alloc (.cells #[.int .i64 j, .int .i64 0] 60) = W at hb ⊢
  have HB := TW.hide hb
  clear hb
  go_loop [5, 9] (fun v i => i = .int .i64 0 ∧ v = .int .u64 0) (fun _ i => 0)
  case atStart => exact ⟨rfl, rfl⟩
  case round =>
    obtain ⟨rfl, rfl⟩ := hrel
    go_wp2
    go_ret
    exact ⟨rfl, HB.out⟩
theorem fieldLoad (kd f : Int) (x : Bool) (a : Option Addr) (cap : Nat) (zs : List Int) (w : World) (hz : Byt zs) (hr : Row w a zs) (hm : zs.length ≤ maxLen) (hk : kd = 1 ∨ kd = 2) (hlen : (zs.length : Int) = mo kd) (h1 : 1 ≤ f) (h9 : f ≤ 9) :
    Calls Tryd.prog 52 #[.agg #[.int .i64 (rAt kd f), .int .i64 (pSz kd f x)], .slice a zs.length cap] w fun e w' => e = .returned (.int .u64 (fV kd x zs f)) ∧ Below w.heap.size w w' := by
  obtain ⟨e1, e2, h8, hl, _, _, h0⟩ := pFits kd f x hk h1 h9
  unfold fV
  rw [e1, e2]
  simp only [Int.toNat_natCast]
  generalize (rAt kd f).toNat = j at *
  generalize (pSz kd f x).toNat = n at *
  by_cases hn : n = 0
  · subst hn
    exact spanLoad0 a zs.length cap j w
  · exact spanLoad a cap zs j n w hz hr hm (by omega) h8 (by omega)
/-- The bytes of a block that say nothing. -/
def idl (kd : Int) (zs : List Int) : List Int := if kd = 1 then (zs.drop 18).take 14 else []
theorem tn_zero (l : List Int) : ∀ n, tn l n = 0 ↔ ∀ i, i < n → l.getD i 0 = 0
  | 0 => by simp [tn]
  | n + 1 => by
    unfold tn
    split
    · rename_i h
      rw [tn_zero l n]
      constructor
      · intro h' i hi
        rcases Nat.lt_or_ge i n with h2 | h2
        · exact h' i h2
        · obtain rfl : i = n := by omega
          exact h
      · exact fun h' i hi => h' i (by omega)
    · rename_i h
      constructor
      · intro h'; omega
      · intro h'; exact absurd (h' n (by omega)) h
/-- Salt and personal of a block. -/
def saL (kd : Int) (zs : List Int) : List Int := (zs.drop (2 * (mo kd / 4).toNat)).take (mo kd / 4).toNat
def peL (kd : Int) (zs : List Int) : List Int := (zs.drop (3 * (mo kd / 4).toNat)).take (mo kd / 4).toNat
end LW
end Go.Proofs.YteakoajkmcbilabDoor
namespace Go.Proofs.YteakoajkmcbilabDoor
open Go.RowKit
set_option linter.unusedVariables false
set_option linter.unusedSimpArgs false
namespace LW
open Words
attribute [local go_sem ↓] Go.wp_at_zero Go.wp_at_succ
theorem cl_zero {kd : Int} {n : Nat} (h : cl kd n = 0) : (kd = 1 ∨ kd = 2) ∧ (n : Int) = mo kd := by
  unfold cl at h
  split at h
  · exact absurd h (by decide)
  · rename_i hk
    split at h
    · exact absurd h (by decide)
    · split at h
      · exact absurd h (by decide)
      · exact ⟨by omega, by omega⟩
theorem msC_two (kd : Int) (W : World) (g : Nat) (h : W.heap[g]? = some (.cells (msC kd) 93 (0, 0))) : W.rangeAt g 4 [.int .i64 (if kd = 1 then 18 else 0), .int .i64 (if kd = 1 then 14 else 0)] := fun j v hj => by
  have hlt := (List.getElem?_eq_some_iff.1 hj).1
  have : j = 0 ∨ j = 1 := by simp at hlt; omega
  rcases this with rfl | rfl
  · exact blk_cell h (i := 4) (by simpa [msC] using hj)
  · exact blk_cell h (i := 5) (by simpa [msC] using hj)
theorem info79 (kd : Int) : (Tryd.prog.info? 93).map (·.size) = some (msC kd).size := by
  show (Tryd.prog.info? 93).map (·.size) = some 6
  kernel_rfl
theorem ms_one (kd : Int) : (msC kd).all (·.oneCell') = true := by simp [msC, Value.oneCell']
set_option maxRecDepth 100000 in
set_option maxHeartbeats 4000000 in
theorem decLen (kd : Int) (x : Bool) (a : Option Addr) (cap len : Nat) (w : World) (hE : (cl kd len != 0) = true) :
    Calls Tryd.prog 15 #[.int .i64 kd, .slice a len cap, .bool x] w fun e w' => e = .returned (.tuple #[.agg (pcP Pm.zero (.slice none 0 0) (.slice none 0 0)), .int .i64 (cl kd len)]) ∧ Below w.heap.size w w' := by
  have H54 := TW.hide (fun W => checkLength kd a len cap W)
  generalize cl kd len = E at *
  have hb := ((Below.refl w.heap.size w).alloc (Nat.le_refl _) (.cells (pcP Pm.zero (.slice none 0 0) (.slice none 0 0)) 26))
  have n0 := (heap_new w (.cells (pcP Pm.zero (.slice none 0 0) (.slice none 0 0)) 26))
  go_enter Tryd.func15, Tryd.ntmps15
  refine wp_seq_k fun K hK => ?_
  have HK := TW.hide hK
  clear hK
  go_wp2
  refine HK.out _ _ ?_
  clear HK K
  change Code.wp _ _ _ _ (w.alloc (.cells (pcP Pm.zero (.slice none 0 0) (.slice none 0 0)) 26))
  generalize hWW : w.alloc (.cells (pcP Pm.zero (.slice none 0 0) (.slice none 0 0)) 26) = W at hb n0 ⊢
  have hW : W.heap.size = w.heap.size + 1 := by rw [← hWW]; simp
  clear hWW
  generalize hB : w.heap.size = B at *
  have N0 := TW.hide n0
  have NB := TW.hide hb
  clear n0 hb
  clear hW
  go_wp2_with fail
  refine (H54.out _).mono ?_
  rintro e w1 ⟨rfl, hb1⟩
  have M0 := TW.hide (blk_keep N0.out hb1)
  have MB : Hid (Below B w w1) := below_row NB.out hb1 (by have := blk_lt N0.out; omega)
  clear hb1 N0 NB
  go_wp2_with (first | (refine wpList_store_row (by rfl) 26 _ _ (by rfl) (B) (pcP Pm.zero (.slice none 0 0) (.slice none 0 0)) (by rfl) (by rfl) 26 _ M0.out (info31 _ _ _) (pc_size _ _ _ _ _ _) (pc_one _ _ _ _ _ _ _) ?_))
  refine bodyPost_ret (v := .tuple #[.agg (pcP Pm.zero (.slice none 0 0) (.slice none 0 0)), .int .i64 E]) (results_row_tmp (P := Tryd.prog) Tryd.results15 _ _ B 26 _ (0, 0) _ _ (by rfl) (by rfl) (setRow_heap _ _ _ _ _ _ M0.out) Tryd.underlying26 rfl (info31 _ _ _)) rfl ?_
  exact ⟨rfl, below_setRow MB.out (Nat.le_refl _)⟩
set_option maxRecDepth 100000 in
set_option maxHeartbeats 4000000 in
theorem decIdle (kd : Int) (x : Bool) (b off cap : Nat) (zs : List Int) (w : World) (hcl : cl kd zs.length = 0) (hz : Byt zs) (hr : Row w (some ⟨b, off, none⟩) zs) (hc : zs.length ≤ cap) (hcm : cap ≤ maxLen) (hi : ((tr (idl kd zs)).length : Int) != 0) :
    Calls Tryd.prog 15 #[.int .i64 kd, (.slice (some ⟨b, off, none⟩) zs.length cap), .bool x] w fun e w' => e = .returned (.tuple #[.agg (pcP Pm.zero (.slice none 0 0) (.slice none 0 0)), .int .i64 4]) ∧ Below w.heap.size w w' := by
  obtain ⟨hk, hlen⟩ := cl_zero hcl
  have hmo : (32 : Int) ≤ mo kd ∧ mo kd ≤ 64 := by rcases hk with rfl | rfl <;> decide
  have hI : (if kd = 1 then (18 : Int) else 0) = ((if kd = 1 then 18 else 0 : Nat) : Int) ∧ (if kd = 1 then (14 : Int) else 0) = ((if kd = 1 then 14 else 0 : Nat) : Int) ∧ (((if kd = 1 then 18 else 0) + (if kd = 1 then 14 else 0) : Nat) : Int) ≤ mo kd ∧ (zs.drop (if kd = 1 then 18 else 0)).take (if kd = 1 then 14 else 0) = idl kd zs := by
    rcases hk with rfl | rfl
    · exact ⟨rfl, rfl, by decide, rfl⟩
    · exact ⟨rfl, rfl, by decide, rfl⟩
  obtain ⟨hI1, hI2, hI3, hI4⟩ := hI
  have H54 : Hid (∀ W : World, Calls Tryd.prog 49 #[.int .i64 kd, (.slice (some ⟨b, off, none⟩) zs.length cap)] W fun e w' => e = .returned (.int .i64 0) ∧ Below W.heap.size W w') := fun W => by
    have := checkLength kd (some ⟨b, off, none⟩) zs.length cap W
    rwa [hcl] at this
  have H37 : Hid (∀ W : World, Calls Tryd.prog 40 #[.int .i64 kd] W fun e w' => e = .returned (.tuple #[.agg (msC kd), .int .i64 (ke kd)]) ∧ Below W.heap.size W w') := fun W => measures kd W
  have HM2 := TW.hide (fun W g h => msC_two kd W g h)
  rw [hI1, hI2] at HM2
  generalize hj0 : (if kd = 1 then 18 else 0 : Nat) = j0 at *
  generalize hn0 : (if kd = 1 then 14 else 0 : Nat) = n0' at *
  have H49 : Hid (∀ W : World, Calls Tryd.prog 48 #[.agg #[.int .i64 j0, .int .i64 n0'], (.slice (some ⟨b, off, none⟩) zs.length cap)] W fun e w' => e = .returned (.slice (some ⟨b, off + j0, none⟩) n0' (cap - j0)) ∧ Below W.heap.size W w') := fun W =>
    spanOf b off cap zs.length j0 n0' W (by omega) hc (by omega) hcm
  have H43 : Hid (∀ W : World, Below w.heap.size w W → Calls Tryd.prog 50 #[.slice (some ⟨b, off + j0, none⟩) n0' (cap - j0)] W fun e w' => e = .returned (.slice (some ⟨b, off + j0, none⟩) (tr (idl kd zs)).length (cap - j0)) ∧ ∃ q, w' = W.drewN q) := fun W hb => by
    have hl : ((zs.drop j0).take n0').length = n0' := sub_length zs j0 n0' (by omega)
    have := withoutEnd (some ⟨b, off + j0, none⟩) (cap - j0) ((zs.drop j0).take n0') W ((hr.below hb).sub j0 n0' (by omega)) (fun h => by cases h) (by rw [hl]; unfold maxLen at hcm; omega) (by rw [hl]; omega)
    rw [hl, hI4] at this
    exact this
  have hb := ((Below.refl w.heap.size w).alloc (Nat.le_refl _) (.cells (pcP Pm.zero (.slice none 0 0) (.slice none 0 0)) 26))
  have n0 := (heap_new w (.cells (pcP Pm.zero (.slice none 0 0) (.slice none 0 0)) 26))
  clear hj0 hn0 hI1 hI2 hI3 hI4
  go_enter Tryd.func15, Tryd.ntmps15
  refine wp_seq_k fun K hK => ?_
  have HK := TW.hide hK
  clear hK
  go_wp2
  refine HK.out _ _ ?_
  clear HK K
  change Code.wp _ _ _ _ (w.alloc (.cells (pcP Pm.zero (.slice none 0 0) (.slice none 0 0)) 26))
  generalize hWW : w.alloc (.cells (pcP Pm.zero (.slice none 0 0) (.slice none 0 0)) 26) = W at hb n0 ⊢
  have hW : W.heap.size = w.heap.size + 1 := by rw [← hWW]; simp
  clear hWW
  generalize hB : w.heap.size = B at *
  have N0 := TW.hide n0
  have NB := TW.hide hb
  clear n0 hb
  clear hW
  have h00 : ((0 : Int) != 0) = false := rfl
  refine wp_seq_k fun KK hK => ?_
  have HK := TW.hide hK
  clear hK
  go_wp2_with fail
  refine (H54.out _).mono ?_
  rintro e w1 ⟨rfl, hb1⟩
  have M0 := TW.hide (blk_keep N0.out hb1)
  have MB : Hid (Below B w w1) := below_row NB.out hb1 (by have := blk_lt N0.out; omega)
  clear hb1 N0 NB H54
  go_wp2
  refine HK.out _ _ ?_
  clear HK KK
  refine wp_seq_k fun KK hK => ?_
  have HK := TW.hide hK
  clear hK
  go_wp2_with fail
  refine (H37.out _).mono ?_
  rintro e w2 ⟨rfl, hb2⟩
  have N0 := TW.hide (blk_keep M0.out hb2)
  have NB : Hid (Below B w w2) := below_row MB.out hb2 (by have := blk_lt M0.out; omega)
  clear hb2 M0 MB H37
  go_wp2_with (first | (refine wpList_store_row (by rfl) 93 _ _ (by rfl) (w2.heap.size) (msC kd) (by rfl) (by rfl) 93 _ (heap_new w2 _) (info79 kd) (by rfl) (ms_one kd) ?_))
  have ng := setRow_heap _ _ _ (msC kd) _ _ (heap_new w2 (.cells #[.int .i64 0, .int .i64 0, .int .i64 0, .int .i64 0, .int .i64 0, .int .i64 0] 93))
  have bx := below_setRow (cs := msC kd) ((Below.refl w2.heap.size w2).alloc (Nat.le_refl _) (.cells #[.int .i64 0, .int .i64 0, .int .i64 0, .int .i64 0, .int .i64 0, .int .i64 0] 93)) (g := w2.heap.size) (Nat.le_refl _)
  generalize (w2.alloc (.cells #[.int .i64 0, .int .i64 0, .int .i64 0, .int .i64 0, .int .i64 0, .int .i64 0] 93)).setRow w2.heap.size (msC kd) = X2 at ng bx ⊢
  have M0 := TW.hide (blk_keep N0.out bx)
  have MB : Hid (Below B w X2) := below_row NB.out bx (by have := blk_lt N0.out; omega)
  have MR := TW.hide (HM2.out _ _ ng)
  clear N0 NB ng bx HM2
  generalize w2.heap.size = g at *
  refine HK.out _ _ ?_
  clear HK KK
  refine wp_seq_k fun KK hK => ?_
  have HK := TW.hide hK
  clear hK
  go_wp2_with (refine wpList_load_mid (by rfl) 60 _ (by rfl) g 4 (by rfl) [.int .i64 j0, .int .i64 n0'] _ MR.out Tryd.underlying60 rfl (by kernel_rfl) ?_)
  refine (H49.out _).mono ?_
  rintro e w3 ⟨rfl, hb3⟩
  have N0 := TW.hide (blk_keep M0.out hb3)
  have NB : Hid (Below B w w3) := below_row MB.out hb3 (by have := blk_lt M0.out; omega)
  clear hb3 M0 MB MR H49
  go_wp2_with fail
  refine (H43.out _ NB.out).mono ?_
  rintro e w4 ⟨rfl, qq, rfl⟩
  have M0 : Hid ((w3.drewN qq).heap[B]? = some (.cells (pcP Pm.zero (.slice none 0 0) (.slice none 0 0)) 26 (0, 0))) := N0.out
  have MB : Hid (Below B w (w3.drewN qq)) := below_drewN NB.out _
  clear N0 NB H43
  generalize w3.drewN qq = Y4 at *
  generalize (tr (idl kd zs)).length = L0 at *
  go_wp2_with (first | (refine wpList_store_row (by rfl) 26 _ _ (by rfl) (B) (pcP Pm.zero (.slice none 0 0) (.slice none 0 0)) (by rfl) (by rfl) 26 _ M0.out (info31 _ _ _) (pc_size _ _ _ _ _ _) (pc_one _ _ _ _ _ _ _) ?_))
  refine bodyPost_ret (v := .tuple #[.agg (pcP Pm.zero (.slice none 0 0) (.slice none 0 0)), .int .i64 4]) (results_row_tmp (P := Tryd.prog) Tryd.results15 _ _ B 26 _ (0, 0) _ _ (by rfl) (by rfl) (setRow_heap _ _ _ _ _ _ M0.out) Tryd.underlying26 rfl (info31 _ _ _)) rfl ?_
  exact ⟨rfl, below_setRow MB.out (Nat.le_refl _)⟩
theorem own_setRow {w : World} {B n p : Nat} {v : Value} {xs : List Value} {cs : Array Value} (h : w.ownsRow B 5 1 v n xs) (hp : p < B) : (w.setRow p cs).ownsRow B 5 1 v n xs := by
  obtain ⟨h1, h2⟩ := h
  refine ⟨h1, ?_⟩
  rcases h2 with h2 | ⟨g, cap, cur, e, hg, hh, rest⟩
  · exact .inl h2
  · refine .inr ⟨g, cap, cur, e, hg, ?_, rest⟩
    rw [setRow_other _ _ _ _ (by omega)]; exact hh
theorem sa_length (kd : Int) (zs : List Int) (hk : kd = 1 ∨ kd = 2) (hl : (zs.length : Int) = mo kd) : (saL kd zs).length = (mo kd / 4).toNat ∧ (peL kd zs).length = (mo kd / 4).toNat := by
  unfold saL peL
  have hs : 4 * (mo kd / 4).toNat ≤ zs.length := by rcases hk with rfl | rfl <;> simp [mo] at hl ⊢ <;> omega
  exact ⟨sub_length _ _ _ (by omega), sub_length _ _ _ (by omega)⟩
set_option maxRecDepth 100000 in
set_option maxHeartbeats 8000000 in
theorem decXof (kd : Int) (x : Bool) (b off cap : Nat) (zs : List Int) (w : World) (hcl : cl kd zs.length = 0) (hz : Byt zs) (hr : Row w (some ⟨b, off, none⟩) zs) (hc : zs.length ≤ cap) (hcm : cap ≤ maxLen) (hi : (((tr (idl kd zs)).length : Int) != 0) = false) (hxx : x = true ∧ ((dP kd x zs).xof == 0) = true) :
    Calls Tryd.prog 15 #[.int .i64 kd, (.slice (some ⟨b, off, none⟩) zs.length cap), .bool x] w fun e w' => e = .returned (.tuple #[.agg (pcP Pm.zero (.slice none 0 0) (.slice none 0 0)), .int .i64 24]) ∧ Below w.heap.size w w' := by
  obtain ⟨hk, hlen⟩ := cl_zero hcl
  have hmo : (32 : Int) ≤ mo kd ∧ mo kd ≤ 64 := by rcases hk with rfl | rfl <;> decide
  have hI : (if kd = 1 then (18 : Int) else 0) = ((if kd = 1 then 18 else 0 : Nat) : Int) ∧ (if kd = 1 then (14 : Int) else 0) = ((if kd = 1 then 14 else 0 : Nat) : Int) ∧ (((if kd = 1 then 18 else 0) + (if kd = 1 then 14 else 0) : Nat) : Int) ≤ mo kd ∧ (zs.drop (if kd = 1 then 18 else 0)).take (if kd = 1 then 14 else 0) = idl kd zs := by
    rcases hk with rfl | rfl
    · exact ⟨rfl, rfl, by decide, rfl⟩
    · exact ⟨rfl, rfl, by decide, rfl⟩
  obtain ⟨hI1, hI2, hI3, hI4⟩ := hI
  have H54 : Hid (∀ W : World, Calls Tryd.prog 49 #[.int .i64 kd, (.slice (some ⟨b, off, none⟩) zs.length cap)] W fun e w' => e = .returned (.int .i64 0) ∧ Below W.heap.size W w') := fun W => by
    have := checkLength kd (some ⟨b, off, none⟩) zs.length cap W
    rwa [hcl] at this
  have H37 : Hid (∀ W : World, Calls Tryd.prog 40 #[.int .i64 kd] W fun e w' => e = .returned (.tuple #[.agg (msC kd), .int .i64 (ke kd)]) ∧ Below W.heap.size W w') := fun W => measures kd W
  have HM2 := TW.hide (fun W g h => msC_two kd W g h)
  rw [hI1, hI2] at HM2
  generalize hj0 : (if kd = 1 then 18 else 0 : Nat) = j0 at *
  generalize hn0 : (if kd = 1 then 14 else 0 : Nat) = n0' at *
  have H49 : Hid (∀ W : World, Calls Tryd.prog 48 #[.agg #[.int .i64 j0, .int .i64 n0'], (.slice (some ⟨b, off, none⟩) zs.length cap)] W fun e w' => e = .returned (.slice (some ⟨b, off + j0, none⟩) n0' (cap - j0)) ∧ Below W.heap.size W w') := fun W =>
    spanOf b off cap zs.length j0 n0' W (by omega) hc (by omega) hcm
  have H43 : Hid (∀ W : World, Below w.heap.size w W → Calls Tryd.prog 50 #[.slice (some ⟨b, off + j0, none⟩) n0' (cap - j0)] W fun e w' => e = .returned (.slice (some ⟨b, off + j0, none⟩) (tr (idl kd zs)).length (cap - j0)) ∧ ∃ q, w' = W.drewN q) := fun W hb => by
    have hl : ((zs.drop j0).take n0').length = n0' := sub_length zs j0 n0' (by omega)
    have := withoutEnd (some ⟨b, off + j0, none⟩) (cap - j0) ((zs.drop j0).take n0') W ((hr.below hb).sub j0 n0' (by omega)) (fun h => by cases h) (by rw [hl]; unfold maxLen at hcm; omega) (by rw [hl]; omega)
    rw [hl, hI4] at this
    exact this
  have H40 : Hid (∀ (k : Nat) (W : World), 1 ≤ k → k ≤ 9 → Calls Tryd.prog 42 #[.int .i64 k, .int .i64 kd, .bool x] W fun e w' => e = .returned (.agg #[.int .i64 (rAt kd k), .int .i64 (pSz kd k x)]) ∧ Below W.heap.size W w') := fun k W h1 h9 => placeOf k kd x W (by omega) (by omega)
  have H56 : Hid (∀ (k : Nat) (W : World), 1 ≤ k → k ≤ 9 → Below w.heap.size w W → Calls Tryd.prog 52 #[.agg #[.int .i64 (rAt kd k), .int .i64 (pSz kd k x)], (.slice (some ⟨b, off, none⟩) zs.length cap)] W fun e w' => e = .returned (.int .u64 ((dP kd x zs).nv k)) ∧ Below W.heap.size W w') := fun k W h1 h9 hb => by
    rw [dP_nv kd x zs k (by omega) (by omega)]
    exact fieldLoad kd k x (some ⟨b, off, none⟩) cap zs W hz (hr.below hb) (by omega) hk hlen (by omega) (by omega)
  have HBD : Hid (∀ k : Nat, 1 ≤ k → k ≤ 9 → 0 ≤ (dP kd x zs).nv k ∧ (dP kd x zs).nv k < 18446744073709551616 ∧ ((k : Int) ≠ 6 → (dP kd x zs).nv k < 4294967296) ∧ ((k : Int) ≠ 6 → (k : Int) ≠ 5 → (k : Int) ≠ 7 → (dP kd x zs).nv k ≤ 255)) := fun k h1 h9 => by
    rw [dP_nv kd x zs k (by omega) (by omega)]
    exact fV_bd kd k x zs hz hk (by omega) (by omega)
  have hs4 : 4 * (mo kd / 4).toNat = zs.length := by rcases hk with rfl | rfl <;> simp [mo] at hlen ⊢ <;> omega
  have hat : rAt kd 10 = ((2 * (mo kd / 4).toNat : Nat) : Int) ∧ rSz kd 10 = ((mo kd / 4).toNat : Int) ∧ rAt kd 11 = ((3 * (mo kd / 4).toNat : Nat) : Int) ∧ rSz kd 11 = ((mo kd / 4).toNat : Int) := by rcases hk with rfl | rfl <;> decide
  have H48 := TW.hide (fun W => whole 10 kd W (by omega) (by omega))
  have H48b := TW.hide (fun W => whole 11 kd W (by omega) (by omega))
  rw [hat.1, hat.2.1] at H48
  rw [hat.2.2.1, hat.2.2.2] at H48b
  obtain ⟨hsl, hpl⟩ := sa_length kd zs hk hlen
  have hsr : ∀ W, Below w.heap.size w W → Row W (some ⟨b, off + 2 * (mo kd / 4).toNat, none⟩) (saL kd zs) := fun W hb => (hr.below hb).sub _ _ (by omega)
  have hpr : ∀ W, Below w.heap.size w W → Row W (some ⟨b, off + 3 * (mo kd / 4).toNat, none⟩) (peL kd zs) := fun W hb => (hr.below hb).sub _ _ (by omega)
  have H19 := TW.hide (fun W (hb : Below w.heap.size w W) => normalP kd (dP kd x zs) (dP_Ok kd x zs hz hk) (some ⟨b, off + 2 * (mo kd / 4).toNat, none⟩) (some ⟨b, off + 3 * (mo kd / 4).toNat, none⟩) (cap - 2 * (mo kd / 4).toNat) (cap - 3 * (mo kd / 4).toNat) (saL kd zs) (peL kd zs) W
    ⟨hsr W hb, (fun h => by cases h), by rw [hsl]; unfold maxLen at hcm; omega, by rw [hsl]; omega, (hz.drop _).take _⟩ ⟨hpr W hb, (fun h => by cases h), by rw [hpl]; unfold maxLen at hcm; omega, by rw [hpl]; omega, (hz.drop _).take _⟩)
  rw [hsl, hpl] at H19
  have hs1 : 1 ≤ (mo kd / 4).toNat := by rcases hk with rfl | rfl <;> decide
  generalize hS4 : (mo kd / 4).toNat = s4 at *
  have H49b : Hid (∀ W : World, Calls Tryd.prog 48 #[.agg #[.int .i64 ((2 * s4 : Nat) : Int), .int .i64 (s4 : Int)], (.slice (some ⟨b, off, none⟩) zs.length cap)] W fun e w' => e = .returned (.slice (some ⟨b, off + 2 * s4, none⟩) s4 (cap - 2 * s4)) ∧ Below W.heap.size W w') := fun W =>
    spanOf b off cap zs.length (2 * s4) s4 W (by omega) hc (by omega) hcm
  have H49c : Hid (∀ W : World, Calls Tryd.prog 48 #[.agg #[.int .i64 ((3 * s4 : Nat) : Int), .int .i64 (s4 : Int)], (.slice (some ⟨b, off, none⟩) zs.length cap)] W fun e w' => e = .returned (.slice (some ⟨b, off + 3 * s4, none⟩) s4 (cap - 3 * s4)) ∧ Below W.heap.size W w') := fun W =>
    spanOf b off cap zs.length (3 * s4) s4 W (by omega) hc (by omega) hcm
  have HXX := TW.hide hxx
  clear hsr hpr hsl hpl hat hS4 hs1 hs4 hxx hcl hz hr hc hcm hlen hmo
  have hb := ((Below.refl w.heap.size w).alloc (Nat.le_refl _) (.cells (pcP Pm.zero (.slice none 0 0) (.slice none 0 0)) 26))
  have n0 := (heap_new w (.cells (pcP Pm.zero (.slice none 0 0) (.slice none 0 0)) 26))
  clear hj0 hn0 hI1 hI2 hI3 hI4
  go_enter Tryd.func15, Tryd.ntmps15
  refine wp_seq_k fun K hK => ?_
  have HK := TW.hide hK
  clear hK
  go_wp2
  refine HK.out _ _ ?_
  clear HK K
  change Code.wp _ _ _ _ (w.alloc (.cells (pcP Pm.zero (.slice none 0 0) (.slice none 0 0)) 26))
  generalize hWW : w.alloc (.cells (pcP Pm.zero (.slice none 0 0) (.slice none 0 0)) 26) = W at hb n0 ⊢
  have hW : W.heap.size = w.heap.size + 1 := by rw [← hWW]; simp
  clear hWW
  generalize hB : w.heap.size = B at *
  have N0 := TW.hide n0
  have NB := TW.hide hb
  clear n0 hb
  clear hW
  have h00 : ((0 : Int) != 0) = false := rfl
  refine wp_seq_k fun KK hK => ?_
  have HK := TW.hide hK
  clear hK
  go_wp2_with fail
  refine (H54.out _).mono ?_
  rintro e w1 ⟨rfl, hb1⟩
  have M0 := TW.hide (blk_keep N0.out hb1)
  have MB : Hid (Below B w w1) := below_row NB.out hb1 (by have := blk_lt N0.out; omega)
  clear hb1 N0 NB H54
  go_wp2
  refine HK.out _ _ ?_
  clear HK KK
  refine wp_seq_k fun KK hK => ?_
  have HK := TW.hide hK
  clear hK
  go_wp2_with fail
  refine (H37.out _).mono ?_
  rintro e w2 ⟨rfl, hb2⟩
  have N0 := TW.hide (blk_keep M0.out hb2)
  have NB : Hid (Below B w w2) := below_row MB.out hb2 (by have := blk_lt M0.out; omega)
  clear hb2 M0 MB H37
  go_wp2_with (first | (refine wpList_store_row (by rfl) 93 _ _ (by rfl) (w2.heap.size) (msC kd) (by rfl) (by rfl) 93 _ (heap_new w2 _) (info79 kd) (by rfl) (ms_one kd) ?_))
  have ng := setRow_heap _ _ _ (msC kd) _ _ (heap_new w2 (.cells #[.int .i64 0, .int .i64 0, .int .i64 0, .int .i64 0, .int .i64 0, .int .i64 0] 93))
  have bx := below_setRow (cs := msC kd) ((Below.refl w2.heap.size w2).alloc (Nat.le_refl _) (.cells #[.int .i64 0, .int .i64 0, .int .i64 0, .int .i64 0, .int .i64 0, .int .i64 0] 93)) (g := w2.heap.size) (Nat.le_refl _)
  generalize (w2.alloc (.cells #[.int .i64 0, .int .i64 0, .int .i64 0, .int .i64 0, .int .i64 0, .int .i64 0] 93)).setRow w2.heap.size (msC kd) = X2 at ng bx ⊢
  have M0 := TW.hide (blk_keep N0.out bx)
  have MB : Hid (Below B w X2) := below_row NB.out bx (by have := blk_lt N0.out; omega)
  have MR := TW.hide (HM2.out _ _ ng)
  clear N0 NB ng bx HM2
  generalize w2.heap.size = g at *
  refine HK.out _ _ ?_
  clear HK KK
  refine wp_seq_k fun KK hK => ?_
  have HK := TW.hide hK
  clear hK
  go_wp2_with (refine wpList_load_mid (by rfl) 60 _ (by rfl) g 4 (by rfl) [.int .i64 j0, .int .i64 n0'] _ MR.out Tryd.underlying60 rfl (by kernel_rfl) ?_)
  refine (H49.out _).mono ?_
  rintro e w3 ⟨rfl, hb3⟩
  have N0 := TW.hide (blk_keep M0.out hb3)
  have NB : Hid (Below B w w3) := below_row MB.out hb3 (by have := blk_lt M0.out; omega)
  clear hb3 M0 MB MR H49
  go_wp2_with fail
  refine (H43.out _ NB.out).mono ?_
  rintro e w4 ⟨rfl, qq, rfl⟩
  have M0 : Hid ((w3.drewN qq).heap[B]? = some (.cells (pcP Pm.zero (.slice none 0 0) (.slice none 0 0)) 26 (0, 0))) := N0.out
  have MB : Hid (Below B w (w3.drewN qq)) := below_drewN NB.out _
  clear N0 NB H43
  generalize w3.drewN qq = Y4 at *
  generalize (tr (idl kd zs)).length = L0 at *
  go_wp2
  refine HK.out _ _ ?_
  clear HK KK hi
  refine wp_seq_k fun KK hK => ?_
  have HK := TW.hide hK
  clear hK
  go_wp2
  refine HK.out _ _ ?_
  clear HK KK
  have nh : (Y4.alloc (.cells #[.int .i64 0, .int .i64 0, .int .i64 0, .int .i64 0, .int .u32 0, .int .u64 0, .int .u32 0, .int .i64 0, .int .i64 0, .slice none 0 0, .slice none 0 0] 26)).heap[Y4.heap.size]? = some (.cells (pcP Pm.zero (.slice none 0 0) (.slice none 0 0)) 26 (0, 0)) := heap_new Y4 _
  have bx := (Below.refl Y4.heap.size Y4).alloc (Nat.le_refl _) (.cells #[.int .i64 0, .int .i64 0, .int .i64 0, .int .i64 0, .int .u32 0, .int .u64 0, .int .u32 0, .int .i64 0, .int .i64 0, .slice none 0 0, .slice none 0 0] 26)
  have hlt := blk_lt M0.out
  generalize Y4.alloc (.cells #[.int .i64 0, .int .i64 0, .int .i64 0, .int .i64 0, .int .u32 0, .int .u64 0, .int .u32 0, .int .i64 0, .int .i64 0, .slice none 0 0, .slice none 0 0] 26) = X4 at nh bx ⊢
  have N0 := TW.hide (blk_keep M0.out bx)
  have NB : Hid (Below B w X4) := below_row MB.out bx (by omega)
  have NH := TW.hide nh
  clear M0 MB nh bx
  generalize hh0 : Y4.heap.size = h at *
  clear hh0
  go_wp2
  go_loopw [12] (fun i wr => ∃ k : Nat, 1 ≤ k ∧ k ≤ 10 ∧ i = .int .i64 k ∧ wr.heap[B]? = some (.cells (pcP Pm.zero (.slice none 0 0) (.slice none 0 0)) 26 (0, 0)) ∧ wr.heap[h]? = some (.cells (pcP (upP (dP kd x zs) k) (.slice none 0 0) (.slice none 0 0)) 26 (0, 0)) ∧ Below B w wr) (fun i _ => 10 - (intOf i).toNat)
  case atStart => exact ⟨1, Nat.le_refl _, by omega, rfl, N0.out, NH.out, NB.out⟩
  case round =>
    rename_i Q1 K1 a1
    obtain ⟨k, hk1, hk10, rfl, n0, nh, hb⟩ := hrel
    clear N0 NH NB X4
    have N0 := TW.hide n0
    have NH := TW.hide nh
    have NB := TW.hide hb
    clear n0 nh hb
    by_cases hlt9 : k < 10
    · have c40 := TW.hide (fun W => H40.out k W hk1 (by omega))
      have c56 := TW.hide (fun W hb => H56.out k W hk1 (by omega) hb)
      have hset := TW.hide (upP_set (dP kd x zs) k (.slice none 0 0) (.slice none 0 0) hk1 (by omega))
      obtain ⟨d0, d1, d2, d3⟩ := HBD.out k hk1 (by omega)
      have c55 : Hid (∀ W : World, W.heap[h]? = some (.cells (pcP (upP (dP kd x zs) k) (.slice none 0 0) (.slice none 0 0)) 26 (0, 0)) → Calls Tryd.prog 51 #[.pointer (some ⟨h, 0, none⟩), .int .i64 k, .int .u64 ((dP kd x zs).nv k)] W fun e w' => e = .returned (.tuple #[]) ∧ w' = W.setCell ⟨h, ((k : Int) - 1).toNat, none⟩ (nk k ((dP kd x zs).nv k))) := fun W hW =>
        setNumber h _ _ _ _ _ _ _ _ _ _ _ k ((dP kd x zs).nv k) W hW (by omega) (by omega) d0 d2 d3 d1
      clear d0 d1 d2 d3
      generalize (dP kd x zs).nv k = v at *
      generalize nk k v = nv at *
      generalize rAt kd k = ra at *
      generalize pSz kd k x = pz at *
      have k9 : (k : Int) ≤ 9 := by omega
      go_wp2_with fail
      refine (c40.out _).mono ?_
      rintro e w5 ⟨rfl, hb5⟩
      have M0 := TW.hide (blk_keep N0.out hb5)
      have MH := TW.hide (blk_keep NH.out hb5)
      have MB : Hid (Below B w w5) := below_row NB.out hb5 (by have := blk_lt N0.out; omega)
      clear hb5 N0 NH NB
      go_wp2_with fail
      refine (c56.out _ MB.out).mono ?_
      rintro e w6 ⟨rfl, hb6⟩
      have N0 := TW.hide (blk_keep M0.out hb6)
      have NH := TW.hide (blk_keep MH.out hb6)
      have NB : Hid (Below B w w6) := below_row MB.out hb6 (by have := blk_lt M0.out; omega)
      clear hb6 M0 MH MB
      go_wp2_with fail
      refine (c55.out _ NH.out).mono ?_
      rintro e w7 ⟨rfl, rfl⟩
      have m0 := blk_other (p := h) (o := ((k : Int) - 1).toNat) (u := nv) N0.out (by omega)
      have mh := blk_set (i := ((k : Int) - 1).toNat) (u := nv) NH.out
      rw [hset.out] at mh
      have mb := NB.out.setCell (p := ⟨h, ((k : Int) - 1).toNat, none⟩) (by simp; omega) nv
      clear N0 NH NB
      generalize w6.setCell ⟨h, ((k : Int) - 1).toNat, none⟩ nv = Y7 at *
      have M0 := TW.hide m0
      have MH := TW.hide mh
      have MB := TW.hide mb
      clear m0 mh mb
      go_wp2
      (first | (go_roundw; case' rel => skip) | (refine ⟨?_, ?measure⟩; (repeat apply Exists.intro); refine ⟨?rel, rfl⟩))
      case rel => exact ⟨k + 1, by omega, by omega, by go_num, M0.out, MH.out, MB.out⟩
      case measure => simp [intOf]; omega
    · obtain rfl : k = 10 := by omega
      have HA := TW.hide a1
      clear a1
      go_wp2
      refine HA.out _ _ ?_
      clear HA H40 H56 HBD
      rw [upP_ten] at NH
      have hcx : wr.cell? ⟨h, 6, none⟩ = some (.int .u32 (dP kd x zs).xof) := blk_cell NH.out rfl
      have e0 : ((dP kd x zs).xof == 0) = true := HXX.out.2
      have ex : x = true := HXX.out.1
      subst ex
      generalize (dP kd true zs) = PP at *
      generalize PP.xof = xf at *
      have M0 := N0
      have MB := NB
      clear N0 NB
      go_wp2_with (first | (refine wpList_store_row (by rfl) 26 _ _ (by rfl) (B) (pcP Pm.zero (.slice none 0 0) (.slice none 0 0)) (by rfl) (by rfl) 26 _ M0.out (info31 _ _ _) (pc_size _ _ _ _ _ _) (pc_one _ _ _ _ _ _ _) ?_))
      refine bodyPost_ret (v := .tuple #[.agg (pcP Pm.zero (.slice none 0 0) (.slice none 0 0)), .int .i64 24]) (results_row_tmp (P := Tryd.prog) Tryd.results15 _ _ B 26 _ (0, 0) _ _ (by rfl) (by rfl) (setRow_heap _ _ _ _ _ _ M0.out) Tryd.underlying26 rfl (info31 _ _ _)) rfl ?_
      exact ⟨rfl, below_setRow MB.out (Nat.le_refl _)⟩
set_option maxRecDepth 100000 in
set_option maxHeartbeats 8000000 in
theorem decOk (kd : Int) (x : Bool) (b off cap : Nat) (zs : List Int) (w : World) (hcl : cl kd zs.length = 0) (hz : Byt zs) (hr : Row w (some ⟨b, off, none⟩) zs) (hc : zs.length ≤ cap) (hcm : cap ≤ maxLen) (hi : (((tr (idl kd zs)).length : Int) != 0) = false) (hxx : (x && ((dP kd x zs).xof == 0)) = false) :
    Calls Tryd.prog 15 #[.int .i64 kd, (.slice (some ⟨b, off, none⟩) zs.length cap), .bool x] w fun e w' => ∃ u v, e = .returned (.tuple #[.agg (pcP (nP ((dP kd x zs).ck kd (mo kd / 4).toNat (mo kd / 4).toNat) (dP kd x zs)) u v), .int .i64 ((dP kd x zs).ck kd (mo kd / 4).toNat (mo kd / 4).toNat)]) ∧ w'.ownsRow w.heap.size 5 1 u (nS ((dP kd x zs).ck kd (mo kd / 4).toNat (mo kd / 4).toNat) (saL kd zs)).length (vs (nS ((dP kd x zs).ck kd (mo kd / 4).toNat (mo kd / 4).toNat) (saL kd zs))) ∧ w'.ownsRow w.heap.size 5 1 v (nS ((dP kd x zs).ck kd (mo kd / 4).toNat (mo kd / 4).toNat) (peL kd zs)).length (vs (nS ((dP kd x zs).ck kd (mo kd / 4).toNat (mo kd / 4).toNat) (peL kd zs))) ∧ Below w.heap.size w w' := by
  obtain ⟨hk, hlen⟩ := cl_zero hcl
  have hmo : (32 : Int) ≤ mo kd ∧ mo kd ≤ 64 := by rcases hk with rfl | rfl <;> decide
  have hI : (if kd = 1 then (18 : Int) else 0) = ((if kd = 1 then 18 else 0 : Nat) : Int) ∧ (if kd = 1 then (14 : Int) else 0) = ((if kd = 1 then 14 else 0 : Nat) : Int) ∧ (((if kd = 1 then 18 else 0) + (if kd = 1 then 14 else 0) : Nat) : Int) ≤ mo kd ∧ (zs.drop (if kd = 1 then 18 else 0)).take (if kd = 1 then 14 else 0) = idl kd zs := by
    rcases hk with rfl | rfl
    · exact ⟨rfl, rfl, by decide, rfl⟩
    · exact ⟨rfl, rfl, by decide, rfl⟩
  obtain ⟨hI1, hI2, hI3, hI4⟩ := hI
  have H54 : Hid (∀ W : World, Calls Tryd.prog 49 #[.int .i64 kd, (.slice (some ⟨b, off, none⟩) zs.length cap)] W fun e w' => e = .returned (.int .i64 0) ∧ Below W.heap.size W w') := fun W => by
    have := checkLength kd (some ⟨b, off, none⟩) zs.length cap W
    rwa [hcl] at this
  have H37 : Hid (∀ W : World, Calls Tryd.prog 40 #[.int .i64 kd] W fun e w' => e = .returned (.tuple #[.agg (msC kd), .int .i64 (ke kd)]) ∧ Below W.heap.size W w') := fun W => measures kd W
  have HM2 := TW.hide (fun W g h => msC_two kd W g h)
  rw [hI1, hI2] at HM2
  generalize hj0 : (if kd = 1 then 18 else 0 : Nat) = j0 at *
  generalize hn0 : (if kd = 1 then 14 else 0 : Nat) = n0' at *
  have H49 : Hid (∀ W : World, Calls Tryd.prog 48 #[.agg #[.int .i64 j0, .int .i64 n0'], (.slice (some ⟨b, off, none⟩) zs.length cap)] W fun e w' => e = .returned (.slice (some ⟨b, off + j0, none⟩) n0' (cap - j0)) ∧ Below W.heap.size W w') := fun W =>
    spanOf b off cap zs.length j0 n0' W (by omega) hc (by omega) hcm
  have H43 : Hid (∀ W : World, Below w.heap.size w W → Calls Tryd.prog 50 #[.slice (some ⟨b, off + j0, none⟩) n0' (cap - j0)] W fun e w' => e = .returned (.slice (some ⟨b, off + j0, none⟩) (tr (idl kd zs)).length (cap - j0)) ∧ ∃ q, w' = W.drewN q) := fun W hb => by
    have hl : ((zs.drop j0).take n0').length = n0' := sub_length zs j0 n0' (by omega)
    have := withoutEnd (some ⟨b, off + j0, none⟩) (cap - j0) ((zs.drop j0).take n0') W ((hr.below hb).sub j0 n0' (by omega)) (fun h => by cases h) (by rw [hl]; unfold maxLen at hcm; omega) (by rw [hl]; omega)
    rw [hl, hI4] at this
    exact this
  have H40 : Hid (∀ (k : Nat) (W : World), 1 ≤ k → k ≤ 9 → Calls Tryd.prog 42 #[.int .i64 k, .int .i64 kd, .bool x] W fun e w' => e = .returned (.agg #[.int .i64 (rAt kd k), .int .i64 (pSz kd k x)]) ∧ Below W.heap.size W w') := fun k W h1 h9 => placeOf k kd x W (by omega) (by omega)
  have H56 : Hid (∀ (k : Nat) (W : World), 1 ≤ k → k ≤ 9 → Below w.heap.size w W → Calls Tryd.prog 52 #[.agg #[.int .i64 (rAt kd k), .int .i64 (pSz kd k x)], (.slice (some ⟨b, off, none⟩) zs.length cap)] W fun e w' => e = .returned (.int .u64 ((dP kd x zs).nv k)) ∧ Below W.heap.size W w') := fun k W h1 h9 hb => by
    rw [dP_nv kd x zs k (by omega) (by omega)]
    exact fieldLoad kd k x (some ⟨b, off, none⟩) cap zs W hz (hr.below hb) (by omega) hk hlen (by omega) (by omega)
  have HBD : Hid (∀ k : Nat, 1 ≤ k → k ≤ 9 → 0 ≤ (dP kd x zs).nv k ∧ (dP kd x zs).nv k < 18446744073709551616 ∧ ((k : Int) ≠ 6 → (dP kd x zs).nv k < 4294967296) ∧ ((k : Int) ≠ 6 → (k : Int) ≠ 5 → (k : Int) ≠ 7 → (dP kd x zs).nv k ≤ 255)) := fun k h1 h9 => by
    rw [dP_nv kd x zs k (by omega) (by omega)]
    exact fV_bd kd k x zs hz hk (by omega) (by omega)
  have hs4 : 4 * (mo kd / 4).toNat = zs.length := by rcases hk with rfl | rfl <;> simp [mo] at hlen ⊢ <;> omega
  have hat : rAt kd 10 = ((2 * (mo kd / 4).toNat : Nat) : Int) ∧ rSz kd 10 = ((mo kd / 4).toNat : Int) ∧ rAt kd 11 = ((3 * (mo kd / 4).toNat : Nat) : Int) ∧ rSz kd 11 = ((mo kd / 4).toNat : Int) := by rcases hk with rfl | rfl <;> decide
  have H48 := TW.hide (fun W => whole 10 kd W (by omega) (by omega))
  have H48b := TW.hide (fun W => whole 11 kd W (by omega) (by omega))
  rw [hat.1, hat.2.1] at H48
  rw [hat.2.2.1, hat.2.2.2] at H48b
  obtain ⟨hsl, hpl⟩ := sa_length kd zs hk hlen
  have hsr : ∀ W, Below w.heap.size w W → Row W (some ⟨b, off + 2 * (mo kd / 4).toNat, none⟩) (saL kd zs) := fun W hb => (hr.below hb).sub _ _ (by omega)
  have hpr : ∀ W, Below w.heap.size w W → Row W (some ⟨b, off + 3 * (mo kd / 4).toNat, none⟩) (peL kd zs) := fun W hb => (hr.below hb).sub _ _ (by omega)
  have H19 := TW.hide (fun W (hb : Below w.heap.size w W) => normalP kd (dP kd x zs) (dP_Ok kd x zs hz hk) (some ⟨b, off + 2 * (mo kd / 4).toNat, none⟩) (some ⟨b, off + 3 * (mo kd / 4).toNat, none⟩) (cap - 2 * (mo kd / 4).toNat) (cap - 3 * (mo kd / 4).toNat) (saL kd zs) (peL kd zs) W
    ⟨hsr W hb, (fun h => by cases h), by rw [hsl]; unfold maxLen at hcm; omega, by rw [hsl]; omega, (hz.drop _).take _⟩ ⟨hpr W hb, (fun h => by cases h), by rw [hpl]; unfold maxLen at hcm; omega, by rw [hpl]; omega, (hz.drop _).take _⟩)
  rw [hsl, hpl] at H19
  have hs1 : 1 ≤ (mo kd / 4).toNat := by rcases hk with rfl | rfl <;> decide
  generalize hS4 : (mo kd / 4).toNat = s4 at *
  have H49b : Hid (∀ W : World, Calls Tryd.prog 48 #[.agg #[.int .i64 ((2 * s4 : Nat) : Int), .int .i64 (s4 : Int)], (.slice (some ⟨b, off, none⟩) zs.length cap)] W fun e w' => e = .returned (.slice (some ⟨b, off + 2 * s4, none⟩) s4 (cap - 2 * s4)) ∧ Below W.heap.size W w') := fun W =>
    spanOf b off cap zs.length (2 * s4) s4 W (by omega) hc (by omega) hcm
  have H49c : Hid (∀ W : World, Calls Tryd.prog 48 #[.agg #[.int .i64 ((3 * s4 : Nat) : Int), .int .i64 (s4 : Int)], (.slice (some ⟨b, off, none⟩) zs.length cap)] W fun e w' => e = .returned (.slice (some ⟨b, off + 3 * s4, none⟩) s4 (cap - 3 * s4)) ∧ Below W.heap.size W w') := fun W =>
    spanOf b off cap zs.length (3 * s4) s4 W (by omega) hc (by omega) hcm
  have HXX := TW.hide hxx
  clear hsr hpr hsl hpl hat hS4 hs1 hs4 hxx hcl hz hr hc hcm hlen hmo
  have hb := ((Below.refl w.heap.size w).alloc (Nat.le_refl _) (.cells (pcP Pm.zero (.slice none 0 0) (.slice none 0 0)) 26))
  have n0 := (heap_new w (.cells (pcP Pm.zero (.slice none 0 0) (.slice none 0 0)) 26))
  clear hj0 hn0 hI1 hI2 hI3 hI4
  go_enter Tryd.func15, Tryd.ntmps15
  refine wp_seq_k fun K hK => ?_
  have HK := TW.hide hK
  clear hK
  go_wp2
  refine HK.out _ _ ?_
  clear HK K
  change Code.wp _ _ _ _ (w.alloc (.cells (pcP Pm.zero (.slice none 0 0) (.slice none 0 0)) 26))
  generalize hWW : w.alloc (.cells (pcP Pm.zero (.slice none 0 0) (.slice none 0 0)) 26) = W at hb n0 ⊢
  have hW : W.heap.size = w.heap.size + 1 := by rw [← hWW]; simp
  clear hWW
  generalize hB : w.heap.size = B at *
  have N0 := TW.hide n0
  have NB := TW.hide hb
  clear n0 hb
  clear hW
  have h00 : ((0 : Int) != 0) = false := rfl
  refine wp_seq_k fun KK hK => ?_
  have HK := TW.hide hK
  clear hK
  go_wp2_with fail
  refine (H54.out _).mono ?_
  rintro e w1 ⟨rfl, hb1⟩
  have M0 := TW.hide (blk_keep N0.out hb1)
  have MB : Hid (Below B w w1) := below_row NB.out hb1 (by have := blk_lt N0.out; omega)
  clear hb1 N0 NB H54
  go_wp2
  refine HK.out _ _ ?_
  clear HK KK
  refine wp_seq_k fun KK hK => ?_
  have HK := TW.hide hK
  clear hK
  go_wp2_with fail
  refine (H37.out _).mono ?_
  rintro e w2 ⟨rfl, hb2⟩
  have N0 := TW.hide (blk_keep M0.out hb2)
  have NB : Hid (Below B w w2) := below_row MB.out hb2 (by have := blk_lt M0.out; omega)
  clear hb2 M0 MB H37
  go_wp2_with (first | (refine wpList_store_row (by rfl) 93 _ _ (by rfl) (w2.heap.size) (msC kd) (by rfl) (by rfl) 93 _ (heap_new w2 _) (info79 kd) (by rfl) (ms_one kd) ?_))
  have ng := setRow_heap _ _ _ (msC kd) _ _ (heap_new w2 (.cells #[.int .i64 0, .int .i64 0, .int .i64 0, .int .i64 0, .int .i64 0, .int .i64 0] 93))
  have bx := below_setRow (cs := msC kd) ((Below.refl w2.heap.size w2).alloc (Nat.le_refl _) (.cells #[.int .i64 0, .int .i64 0, .int .i64 0, .int .i64 0, .int .i64 0, .int .i64 0] 93)) (g := w2.heap.size) (Nat.le_refl _)
  generalize (w2.alloc (.cells #[.int .i64 0, .int .i64 0, .int .i64 0, .int .i64 0, .int .i64 0, .int .i64 0] 93)).setRow w2.heap.size (msC kd) = X2 at ng bx ⊢
  have M0 := TW.hide (blk_keep N0.out bx)
  have MB : Hid (Below B w X2) := below_row NB.out bx (by have := blk_lt N0.out; omega)
  have MR := TW.hide (HM2.out _ _ ng)
  clear N0 NB ng bx HM2
  generalize w2.heap.size = g at *
  refine HK.out _ _ ?_
  clear HK KK
  refine wp_seq_k fun KK hK => ?_
  have HK := TW.hide hK
  clear hK
  go_wp2_with (refine wpList_load_mid (by rfl) 60 _ (by rfl) g 4 (by rfl) [.int .i64 j0, .int .i64 n0'] _ MR.out Tryd.underlying60 rfl (by kernel_rfl) ?_)
  refine (H49.out _).mono ?_
  rintro e w3 ⟨rfl, hb3⟩
  have N0 := TW.hide (blk_keep M0.out hb3)
  have NB : Hid (Below B w w3) := below_row MB.out hb3 (by have := blk_lt M0.out; omega)
  clear hb3 M0 MB MR H49
  go_wp2_with fail
  refine (H43.out _ NB.out).mono ?_
  rintro e w4 ⟨rfl, qq, rfl⟩
  have M0 : Hid ((w3.drewN qq).heap[B]? = some (.cells (pcP Pm.zero (.slice none 0 0) (.slice none 0 0)) 26 (0, 0))) := N0.out
  have MB : Hid (Below B w (w3.drewN qq)) := below_drewN NB.out _
  clear N0 NB H43
  generalize w3.drewN qq = Y4 at *
  generalize (tr (idl kd zs)).length = L0 at *
  go_wp2
  refine HK.out _ _ ?_
  clear HK KK hi
  refine wp_seq_k fun KK hK => ?_
  have HK := TW.hide hK
  clear hK
  go_wp2
  refine HK.out _ _ ?_
  clear HK KK
  have nh : (Y4.alloc (.cells #[.int .i64 0, .int .i64 0, .int .i64 0, .int .i64 0, .int .u32 0, .int .u64 0, .int .u32 0, .int .i64 0, .int .i64 0, .slice none 0 0, .slice none 0 0] 26)).heap[Y4.heap.size]? = some (.cells (pcP Pm.zero (.slice none 0 0) (.slice none 0 0)) 26 (0, 0)) := heap_new Y4 _
  have bx := (Below.refl Y4.heap.size Y4).alloc (Nat.le_refl _) (.cells #[.int .i64 0, .int .i64 0, .int .i64 0, .int .i64 0, .int .u32 0, .int .u64 0, .int .u32 0, .int .i64 0, .int .i64 0, .slice none 0 0, .slice none 0 0] 26)
  have hlt := blk_lt M0.out
  generalize Y4.alloc (.cells #[.int .i64 0, .int .i64 0, .int .i64 0, .int .i64 0, .int .u32 0, .int .u64 0, .int .u32 0, .int .i64 0, .int .i64 0, .slice none 0 0, .slice none 0 0] 26) = X4 at nh bx ⊢
  have N0 := TW.hide (blk_keep M0.out bx)
  have NB : Hid (Below B w X4) := below_row MB.out bx (by omega)
  have NH := TW.hide nh
  clear M0 MB nh bx
  generalize hh0 : Y4.heap.size = h at *
  clear hh0
  go_wp2
  go_loopw [12] (fun i wr => ∃ k : Nat, 1 ≤ k ∧ k ≤ 10 ∧ i = .int .i64 k ∧ wr.heap[B]? = some (.cells (pcP Pm.zero (.slice none 0 0) (.slice none 0 0)) 26 (0, 0)) ∧ wr.heap[h]? = some (.cells (pcP (upP (dP kd x zs) k) (.slice none 0 0) (.slice none 0 0)) 26 (0, 0)) ∧ Below B w wr) (fun i _ => 10 - (intOf i).toNat)
  case atStart => exact ⟨1, Nat.le_refl _, by omega, rfl, N0.out, NH.out, NB.out⟩
  case round =>
    rename_i Q1 K1 a1
    obtain ⟨k, hk1, hk10, rfl, n0, nh, hb⟩ := hrel
    clear N0 NH NB X4
    have N0 := TW.hide n0
    have NH := TW.hide nh
    have NB := TW.hide hb
    clear n0 nh hb
    by_cases hlt9 : k < 10
    · have c40 := TW.hide (fun W => H40.out k W hk1 (by omega))
      have c56 := TW.hide (fun W hb => H56.out k W hk1 (by omega) hb)
      have hset := TW.hide (upP_set (dP kd x zs) k (.slice none 0 0) (.slice none 0 0) hk1 (by omega))
      obtain ⟨d0, d1, d2, d3⟩ := HBD.out k hk1 (by omega)
      have c55 : Hid (∀ W : World, W.heap[h]? = some (.cells (pcP (upP (dP kd x zs) k) (.slice none 0 0) (.slice none 0 0)) 26 (0, 0)) → Calls Tryd.prog 51 #[.pointer (some ⟨h, 0, none⟩), .int .i64 k, .int .u64 ((dP kd x zs).nv k)] W fun e w' => e = .returned (.tuple #[]) ∧ w' = W.setCell ⟨h, ((k : Int) - 1).toNat, none⟩ (nk k ((dP kd x zs).nv k))) := fun W hW =>
        setNumber h _ _ _ _ _ _ _ _ _ _ _ k ((dP kd x zs).nv k) W hW (by omega) (by omega) d0 d2 d3 d1
      clear d0 d1 d2 d3
      generalize (dP kd x zs).nv k = v at *
      generalize nk k v = nv at *
      generalize rAt kd k = ra at *
      generalize pSz kd k x = pz at *
      have k9 : (k : Int) ≤ 9 := by omega
      go_wp2_with fail
      refine (c40.out _).mono ?_
      rintro e w5 ⟨rfl, hb5⟩
      have M0 := TW.hide (blk_keep N0.out hb5)
      have MH := TW.hide (blk_keep NH.out hb5)
      have MB : Hid (Below B w w5) := below_row NB.out hb5 (by have := blk_lt N0.out; omega)
      clear hb5 N0 NH NB
      go_wp2_with fail
      refine (c56.out _ MB.out).mono ?_
      rintro e w6 ⟨rfl, hb6⟩
      have N0 := TW.hide (blk_keep M0.out hb6)
      have NH := TW.hide (blk_keep MH.out hb6)
      have NB : Hid (Below B w w6) := below_row MB.out hb6 (by have := blk_lt M0.out; omega)
      clear hb6 M0 MH MB
      go_wp2_with fail
      refine (c55.out _ NH.out).mono ?_
      rintro e w7 ⟨rfl, rfl⟩
      have m0 := blk_other (p := h) (o := ((k : Int) - 1).toNat) (u := nv) N0.out (by omega)
      have mh := blk_set (i := ((k : Int) - 1).toNat) (u := nv) NH.out
      rw [hset.out] at mh
      have mb := NB.out.setCell (p := ⟨h, ((k : Int) - 1).toNat, none⟩) (by simp; omega) nv
      clear N0 NH NB
      generalize w6.setCell ⟨h, ((k : Int) - 1).toNat, none⟩ nv = Y7 at *
      have M0 := TW.hide m0
      have MH := TW.hide mh
      have MB := TW.hide mb
      clear m0 mh mb
      go_wp2
      (first | (go_roundw; case' rel => skip) | (refine ⟨?_, ?measure⟩; (repeat apply Exists.intro); refine ⟨?rel, rfl⟩))
      case rel => exact ⟨k + 1, by omega, by omega, by go_num, M0.out, MH.out, MB.out⟩
      case measure => simp [intOf]; omega
    · obtain rfl : k = 10 := by omega
      have HA := TW.hide a1
      clear a1
      go_wp2
      refine HA.out _ _ ?_
      clear HA H40 H56 HBD
      rw [upP_ten] at NH
      have hcx : wr.cell? ⟨h, 6, none⟩ = some (.int .u32 (dP kd x zs).xof) := blk_cell NH.out rfl
      cases x
      · skip
        generalize hPP : (dP kd false zs) = PP at *
        have HPP := TW.hide hPP
        clear hPP
        generalize hEE : PP.ck kd s4 s4 = EE at *
        have HEE := TW.hide hEE
        clear hEE
        generalize PP.xof = xf at *
        refine wp_seq_k fun KK hK => ?_
        have HK := TW.hide hK
        clear hK
        go_wp2
        refine HK.out _ _ ?_
        clear HK KK hcx
        refine wp_seq_k fun KK hK => ?_
        have HK := TW.hide hK
        clear hK
        go_wp2_with fail
        refine (H48.out _).mono ?_
        rintro e w5 ⟨rfl, hb5⟩
        have M0 := TW.hide (blk_keep N0.out hb5)
        have MH := TW.hide (blk_keep NH.out hb5)
        have MB : Hid (Below B w w5) := below_row NB.out hb5 (by have := blk_lt N0.out; omega)
        clear hb5 N0 NH NB
        go_wp2_with fail
        refine (H49b.out _).mono ?_
        rintro e w6 ⟨rfl, hb6⟩
        have N0 := TW.hide (blk_keep M0.out hb6)
        have nh := blk_keep MH.out hb6
        have NB : Hid (Below B w w6) := below_row MB.out hb6 (by have := blk_lt M0.out; omega)
        have c9 : w6.cell? ⟨h, 9, none⟩ = some (.slice none 0 0) := blk_cell nh rfl
        have f9 : w6.frozen? ⟨h, 9, none⟩ = false := frozen_of_row w6 h 9 _ 26 nh
        have NH := TW.hide nh
        clear hb6 M0 MH MB nh
        go_wp2
        clear c9 f9
        have m0 := blk_other (p := h) (o := 9) (u := (.slice (some ⟨b, off + 2 * s4, none⟩) s4 (cap - 2 * s4))) N0.out (by omega)
        have mh : (w6.setCell ⟨h, 9, none⟩ (.slice (some ⟨b, off + 2 * s4, none⟩) s4 (cap - 2 * s4))).heap[h]? = some (.cells (pcP PP (.slice (some ⟨b, off + 2 * s4, none⟩) s4 (cap - 2 * s4)) (.slice none 0 0)) 26 (0, 0)) := blk_set (i := 9) (u := (.slice (some ⟨b, off + 2 * s4, none⟩) s4 (cap - 2 * s4))) NH.out
        have mb := NB.out.setCell (p := ⟨h, 9, none⟩) (by simp; omega) (.slice (some ⟨b, off + 2 * s4, none⟩) s4 (cap - 2 * s4))
        clear N0 NH NB
        generalize w6.setCell ⟨h, 9, none⟩ (.slice (some ⟨b, off + 2 * s4, none⟩) s4 (cap - 2 * s4)) = Y6 at *
        have M0 := TW.hide m0
        have MH := TW.hide mh
        have MB := TW.hide mb
        clear m0 mh mb
        refine HK.out _ _ ?_
        clear HK KK
        refine wp_seq_k fun KK hK => ?_
        have HK := TW.hide hK
        clear hK
        go_wp2_with fail
        refine (H48b.out _).mono ?_
        rintro e w7 ⟨rfl, hb7⟩
        have N0 := TW.hide (blk_keep M0.out hb7)
        have NH := TW.hide (blk_keep MH.out hb7)
        have NB : Hid (Below B w w7) := below_row MB.out hb7 (by have := blk_lt M0.out; omega)
        clear hb7 M0 MH MB
        go_wp2_with fail
        refine (H49c.out _).mono ?_
        rintro e w8 ⟨rfl, hb8⟩
        have M0 := TW.hide (blk_keep N0.out hb8)
        have mh := blk_keep NH.out hb8
        have MB : Hid (Below B w w8) := below_row NB.out hb8 (by have := blk_lt N0.out; omega)
        have c10 : w8.cell? ⟨h, 10, none⟩ = some (.slice none 0 0) := blk_cell mh rfl
        have f10 : w8.frozen? ⟨h, 10, none⟩ = false := frozen_of_row w8 h 10 _ 26 mh
        have MH := TW.hide mh
        clear hb8 N0 NH NB mh
        go_wp2
        clear c10 f10
        have n0 := blk_other (p := h) (o := 10) (u := (.slice (some ⟨b, off + 3 * s4, none⟩) s4 (cap - 3 * s4))) M0.out (by omega)
        have nh : (w8.setCell ⟨h, 10, none⟩ (.slice (some ⟨b, off + 3 * s4, none⟩) s4 (cap - 3 * s4))).heap[h]? = some (.cells (pcP PP (.slice (some ⟨b, off + 2 * s4, none⟩) s4 (cap - 2 * s4)) (.slice (some ⟨b, off + 3 * s4, none⟩) s4 (cap - 3 * s4))) 26 (0, 0)) := blk_set (i := 10) (u := (.slice (some ⟨b, off + 3 * s4, none⟩) s4 (cap - 3 * s4))) MH.out
        have nb := MB.out.setCell (p := ⟨h, 10, none⟩) (by simp; omega) (.slice (some ⟨b, off + 3 * s4, none⟩) s4 (cap - 3 * s4))
        clear M0 MH MB
        generalize w8.setCell ⟨h, 10, none⟩ (.slice (some ⟨b, off + 3 * s4, none⟩) s4 (cap - 3 * s4)) = Y8 at *
        have N0 := TW.hide n0
        have NH := TW.hide nh
        have NB := TW.hide nb
        clear n0 nh nb
        refine HK.out _ _ ?_
        clear HK KK
        go_wp2_with (refine wpList_load_row (by rfl) 26 _ (by rfl) (h) (by rfl) 26 (pcP PP (.slice (some ⟨b, off + 2 * s4, none⟩) s4 (cap - 2 * s4)) (.slice (some ⟨b, off + 3 * s4, none⟩) s4 (cap - 3 * s4))) (0, 0) _ NH.out Tryd.underlying26 rfl (info31 _ _ _) ?_)
        refine (H19.out _ NB.out).mono ?_
        rintro e w9 ⟨u, v, rfl, ou, ov, hb9⟩
        have M0 := TW.hide (blk_keep N0.out hb9)
        have hsz := blk_lt N0.out
        have MB : Hid (Below B w w9) := below_row NB.out hb9 (by omega)
        obtain ⟨ua, uc, rfl⟩ := own_form ou
        obtain ⟨va, vc, rfl⟩ := own_form ov
        have OU := TW.hide (own_mono' (own_setRow (cs := pcP (nP EE PP) (.slice ua (nS EE (saL kd zs)).length uc) (.slice va (nS EE (peL kd zs)).length vc)) ou hsz) (show B ≤ Y8.heap.size by omega))
        have OV := TW.hide (own_mono' (own_setRow (cs := pcP (nP EE PP) (.slice ua (nS EE (saL kd zs)).length uc) (.slice va (nS EE (peL kd zs)).length vc)) ov hsz) (show B ≤ Y8.heap.size by omega))
        clear hb9 N0 NH NB ou ov
        go_wp2_with (refine wpList_store_row (by rfl) 26 _ _ (by rfl) (B) (pcP (nP EE PP) (.slice ua (nS EE (saL kd zs)).length uc) (.slice va (nS EE (peL kd zs)).length vc)) (by rfl) (by rfl) 26 _ M0.out (info31 _ _ _) (pc_size _ _ _ _ _ _) (pc_one _ _ _ _ _ _ _) ?_)
        refine bodyPost_ret (v := .tuple #[.agg (pcP (nP EE PP) (.slice ua (nS EE (saL kd zs)).length uc) (.slice va (nS EE (peL kd zs)).length vc)), .int .i64 EE]) (results_row_tmp (P := Tryd.prog) Tryd.results15 _ _ B 26 _ (0, 0) _ _ (by rfl) (by rfl) (setRow_heap _ _ _ _ _ _ M0.out) Tryd.underlying26 rfl (info31 _ _ _)) rfl ?_
        have e1 := HEE.out
        have e2 := HPP.out
        subst e1 e2
        exact ⟨_, _, rfl, OU.out, OV.out, below_setRow MB.out (Nat.le_refl _)⟩
      · have e0 := HXX.out
        simp only [Bool.true_and] at e0
        generalize hPP : (dP kd true zs) = PP at *
        have HPP := TW.hide hPP
        clear hPP
        generalize hEE : PP.ck kd s4 s4 = EE at *
        have HEE := TW.hide hEE
        clear hEE
        generalize PP.xof = xf at *
        refine wp_seq_k fun KK hK => ?_
        have HK := TW.hide hK
        clear hK
        go_wp2
        refine HK.out _ _ ?_
        clear HK KK hcx
        refine wp_seq_k fun KK hK => ?_
        have HK := TW.hide hK
        clear hK
        go_wp2_with fail
        refine (H48.out _).mono ?_
        rintro e w5 ⟨rfl, hb5⟩
        have M0 := TW.hide (blk_keep N0.out hb5)
        have MH := TW.hide (blk_keep NH.out hb5)
        have MB : Hid (Below B w w5) := below_row NB.out hb5 (by have := blk_lt N0.out; omega)
        clear hb5 N0 NH NB
        go_wp2_with fail
        refine (H49b.out _).mono ?_
        rintro e w6 ⟨rfl, hb6⟩
        have N0 := TW.hide (blk_keep M0.out hb6)
        have nh := blk_keep MH.out hb6
        have NB : Hid (Below B w w6) := below_row MB.out hb6 (by have := blk_lt M0.out; omega)
        have c9 : w6.cell? ⟨h, 9, none⟩ = some (.slice none 0 0) := blk_cell nh rfl
        have f9 : w6.frozen? ⟨h, 9, none⟩ = false := frozen_of_row w6 h 9 _ 26 nh
        have NH := TW.hide nh
        clear hb6 M0 MH MB nh
        go_wp2
        clear c9 f9
        have m0 := blk_other (p := h) (o := 9) (u := (.slice (some ⟨b, off + 2 * s4, none⟩) s4 (cap - 2 * s4))) N0.out (by omega)
        have mh : (w6.setCell ⟨h, 9, none⟩ (.slice (some ⟨b, off + 2 * s4, none⟩) s4 (cap - 2 * s4))).heap[h]? = some (.cells (pcP PP (.slice (some ⟨b, off + 2 * s4, none⟩) s4 (cap - 2 * s4)) (.slice none 0 0)) 26 (0, 0)) := blk_set (i := 9) (u := (.slice (some ⟨b, off + 2 * s4, none⟩) s4 (cap - 2 * s4))) NH.out
        have mb := NB.out.setCell (p := ⟨h, 9, none⟩) (by simp; omega) (.slice (some ⟨b, off + 2 * s4, none⟩) s4 (cap - 2 * s4))
        clear N0 NH NB
        generalize w6.setCell ⟨h, 9, none⟩ (.slice (some ⟨b, off + 2 * s4, none⟩) s4 (cap - 2 * s4)) = Y6 at *
        have M0 := TW.hide m0
        have MH := TW.hide mh
        have MB := TW.hide mb
        clear m0 mh mb
        refine HK.out _ _ ?_
        clear HK KK
        refine wp_seq_k fun KK hK => ?_
        have HK := TW.hide hK
        clear hK
        go_wp2_with fail
        refine (H48b.out _).mono ?_
        rintro e w7 ⟨rfl, hb7⟩
        have N0 := TW.hide (blk_keep M0.out hb7)
        have NH := TW.hide (blk_keep MH.out hb7)
        have NB : Hid (Below B w w7) := below_row MB.out hb7 (by have := blk_lt M0.out; omega)
        clear hb7 M0 MH MB
        go_wp2_with fail
        refine (H49c.out _).mono ?_
        rintro e w8 ⟨rfl, hb8⟩
        have M0 := TW.hide (blk_keep N0.out hb8)
        have mh := blk_keep NH.out hb8
        have MB : Hid (Below B w w8) := below_row NB.out hb8 (by have := blk_lt N0.out; omega)
        have c10 : w8.cell? ⟨h, 10, none⟩ = some (.slice none 0 0) := blk_cell mh rfl
        have f10 : w8.frozen? ⟨h, 10, none⟩ = false := frozen_of_row w8 h 10 _ 26 mh
        have MH := TW.hide mh
        clear hb8 N0 NH NB mh
        go_wp2
        clear c10 f10
        have n0 := blk_other (p := h) (o := 10) (u := (.slice (some ⟨b, off + 3 * s4, none⟩) s4 (cap - 3 * s4))) M0.out (by omega)
        have nh : (w8.setCell ⟨h, 10, none⟩ (.slice (some ⟨b, off + 3 * s4, none⟩) s4 (cap - 3 * s4))).heap[h]? = some (.cells (pcP PP (.slice (some ⟨b, off + 2 * s4, none⟩) s4 (cap - 2 * s4)) (.slice (some ⟨b, off + 3 * s4, none⟩) s4 (cap - 3 * s4))) 26 (0, 0)) := blk_set (i := 10) (u := (.slice (some ⟨b, off + 3 * s4, none⟩) s4 (cap - 3 * s4))) MH.out
        have nb := MB.out.setCell (p := ⟨h, 10, none⟩) (by simp; omega) (.slice (some ⟨b, off + 3 * s4, none⟩) s4 (cap - 3 * s4))
        clear M0 MH MB
        generalize w8.setCell ⟨h, 10, none⟩ (.slice (some ⟨b, off + 3 * s4, none⟩) s4 (cap - 3 * s4)) = Y8 at *
        have N0 := TW.hide n0
        have NH := TW.hide nh
        have NB := TW.hide nb
        clear n0 nh nb
        refine HK.out _ _ ?_
        clear HK KK
        go_wp2_with (refine wpList_load_row (by rfl) 26 _ (by rfl) (h) (by rfl) 26 (pcP PP (.slice (some ⟨b, off + 2 * s4, none⟩) s4 (cap - 2 * s4)) (.slice (some ⟨b, off + 3 * s4, none⟩) s4 (cap - 3 * s4))) (0, 0) _ NH.out Tryd.underlying26 rfl (info31 _ _ _) ?_)
        refine (H19.out _ NB.out).mono ?_
        rintro e w9 ⟨u, v, rfl, ou, ov, hb9⟩
        have M0 := TW.hide (blk_keep N0.out hb9)
        have hsz := blk_lt N0.out
        have MB : Hid (Below B w w9) := below_row NB.out hb9 (by omega)
        obtain ⟨ua, uc, rfl⟩ := own_form ou
        obtain ⟨va, vc, rfl⟩ := own_form ov
        have OU := TW.hide (own_mono' (own_setRow (cs := pcP (nP EE PP) (.slice ua (nS EE (saL kd zs)).length uc) (.slice va (nS EE (peL kd zs)).length vc)) ou hsz) (show B ≤ Y8.heap.size by omega))
        have OV := TW.hide (own_mono' (own_setRow (cs := pcP (nP EE PP) (.slice ua (nS EE (saL kd zs)).length uc) (.slice va (nS EE (peL kd zs)).length vc)) ov hsz) (show B ≤ Y8.heap.size by omega))
        clear hb9 N0 NH NB ou ov
        go_wp2_with (refine wpList_store_row (by rfl) 26 _ _ (by rfl) (B) (pcP (nP EE PP) (.slice ua (nS EE (saL kd zs)).length uc) (.slice va (nS EE (peL kd zs)).length vc)) (by rfl) (by rfl) 26 _ M0.out (info31 _ _ _) (pc_size _ _ _ _ _ _) (pc_one _ _ _ _ _ _ _) ?_)
        refine bodyPost_ret (v := .tuple #[.agg (pcP (nP EE PP) (.slice ua (nS EE (saL kd zs)).length uc) (.slice va (nS EE (peL kd zs)).length vc)), .int .i64 EE]) (results_row_tmp (P := Tryd.prog) Tryd.results15 _ _ B 26 _ (0, 0) _ _ (by rfl) (by rfl) (setRow_heap _ _ _ _ _ _ M0.out) Tryd.underlying26 rfl (info31 _ _ _)) rfl ?_
        have e1 := HEE.out
        have e2 := HPP.out
        subst e1 e2
        exact ⟨_, _, rfl, OU.out, OV.out, below_setRow MB.out (Nat.le_refl _)⟩
end LW
end Go.Proofs.YteakoajkmcbilabDoor
namespace Go.Proofs.YteakoajkmcbilabDoor
open Go.RowKit
set_option linter.unusedVariables false
set_option linter.unusedSimpArgs false
namespace LW
open Words
/-- The error of Decode. -/
def dE (kd : Int) (x : Bool) (zs : List Int) : Int :=
  if cl kd zs.length = 0 then (if (tr (idl kd zs)).length = 0 then (if (x && ((dP kd x zs).xof == 0)) = true then 24 else (dP kd x zs).ck kd (mo kd / 4).toNat (mo kd / 4).toNat) else 4) else cl kd zs.length
theorem nP_err {E : Int} {p : Pm} (h : ¬ E = 0) : nP E p = Pm.zero := by simp [nP, h]
theorem nS_err {E : Int} {s : List Int} (h : ¬ E = 0) : nS E s = [] := by simp [nS, h]
/-- What both tell. -/
def DecSays (kd : Int) (x : Bool) (zs : List Int) (w : World) (e : Ending) (w' : World) : Prop :=
  ∃ u v, e = .returned (.tuple #[.agg (pcP (nP (dE kd x zs) (dP kd x zs)) u v), .int .i64 (dE kd x zs)]) ∧ w'.ownsRow w.heap.size 5 1 u (nS (dE kd x zs) (saL kd zs)).length (vs (nS (dE kd x zs) (saL kd zs))) ∧
    w'.ownsRow w.heap.size 5 1 v (nS (dE kd x zs) (peL kd zs)).length (vs (nS (dE kd x zs) (peL kd zs))) ∧ Below w.heap.size w w'
theorem says_err {kd : Int} {x : Bool} {zs : List Int} {w : World} {E : Int} (hE : dE kd x zs = E) (h0 : ¬ E = 0) (e : Ending) (w' : World)
    (h : e = .returned (.tuple #[.agg (pcP Pm.zero (.slice none 0 0) (.slice none 0 0)), .int .i64 E]) ∧ Below w.heap.size w w') : DecSays kd x zs w e w' := by
  obtain ⟨rfl, hb⟩ := h
  unfold DecSays
  rw [hE, nP_err h0, nS_err h0, nS_err h0]
  exact ⟨_, _, rfl, nil_own _ _, nil_own _ _, hb⟩
theorem Row.some_of {w : World} {a : Option Addr} {zs : List Int} (h : Row w a zs) (h0 : 0 < zs.length) : ∃ b off, a = some ⟨b, off, none⟩ := by
  rcases h with h | ⟨b, off, e, _⟩
  · subst h; simp at h0
  · exact ⟨b, off, e⟩
theorem idl_getD (zs : List Int) (i : Nat) (hi : i < 14) : (idl 1 zs).getD i 0 = zs.getD (18 + i) 0 := by
  simp [idl, List.getD_eq_getElem?_getD, List.getElem?_take, List.getElem?_drop, hi]
theorem idl_len (zs : List Int) (h : zs.length = 64) : (idl 1 zs).length = 14 := by simp [idl, h]
theorem decP (kd : Int) (x : Bool) (a : Option Addr) (cap : Nat) (zs : List Int) (w : World) (h : Pb w a cap zs) (hcm : cap ≤ maxLen) :
    Calls Tryd.prog 15 #[.int .i64 kd, .slice a zs.length cap, .bool x] w (DecSays kd x zs w) := by
  by_cases hcl : cl kd zs.length = 0
  · obtain ⟨hk, hlen⟩ := cl_zero hcl
    have hm : (32 : Int) ≤ mo kd := by rcases hk with rfl | rfl <;> decide
    obtain ⟨b, off, rfl⟩ := h.row.some_of (by omega)
    by_cases hi : (tr (idl kd zs)).length = 0
    · have hi' : (((tr (idl kd zs)).length : Int) != 0) = false := by simp [hi]
      by_cases hx : (x && ((dP kd x zs).xof == 0)) = true
      · have hE : dE kd x zs = 24 := by simp only [dE, hcl, hi, if_true, hx]
        have hx2 : x = true ∧ ((dP kd x zs).xof == 0) = true := by simpa only [Bool.and_eq_true] using hx
        exact (decXof kd x b off cap zs w hcl h.byt h.row h.cap hcm hi' hx2).mono (says_err hE (by decide))
      · have hx' : (x && ((dP kd x zs).xof == 0)) = false := by simpa using hx
        have hE : dE kd x zs = (dP kd x zs).ck kd (mo kd / 4).toNat (mo kd / 4).toNat := by simp only [dE, hcl, hi, if_true, hx', Bool.false_eq_true, if_false]
        have := decOk kd x b off cap zs w hcl h.byt h.row h.cap hcm hi' hx'
        rw [← hE] at this
        exact this
    · have hE : dE kd x zs = 4 := by simp only [dE, hcl, hi, if_true, if_false]
      have hi' : (((tr (idl kd zs)).length : Int) != 0) = true := by simp; exact fun e => hi (by rw [e]; rfl)
      exact (decIdle kd x b off cap zs w hcl h.byt h.row h.cap hcm hi').mono (says_err hE (by decide))
  · have hE : dE kd x zs = cl kd zs.length := by simp only [dE, hcl, if_false]
    exact (decLen kd x a cap zs.length w (bne0 hcl)).mono (says_err hE hcl)
theorem tr_nil : tr [] = [] := rfl
end LW
end Go.Proofs.YteakoajkmcbilabDoor
namespace Go.Proofs.YteakoajkmcbilabDoor
open Go.RowKit
set_option linter.unusedVariables false
namespace LW
open Words
/-- Bytes with a number in a span. -/
def ly (zs : List Int) (j n : Nat) (v : Int) : List Int := zs.take j ++ (un v n ++ zs.drop (j + n))
theorem ly_length (zs : List Int) (j n : Nat) (v : Int) (h : j + n ≤ zs.length) : (ly zs j n v).length = zs.length := by
  simp [ly, un_length]; omega
theorem ly_zero (zs : List Int) (j : Nat) (v : Int) : ly zs j 0 v = zs := by simp [ly, un]
theorem Byt.ly {zs : List Int} (h : Byt zs) (j n : Nat) (v : Int) : Byt (ly zs j n v) := (h.take j).append ((Byt.un v n).append (h.drop _))
theorem ly_step (zs : List Int) (j k : Nat) (v : Int) (h : j + k < zs.length) : (vs (ly zs j k v)).set (j + k) (.int .u8 (v / 256 ^ k % 256)) = vs (ly zs j (k + 1) v) := by
  unfold vs ly
  rw [← List.map_set]
  congr 1
  have h1 : (zs.take j).length = j := by simp; omega
  have h2 : (un v k).length = k := un_length v k
  rw [List.set_append_right _ _ (by rw [h1]; omega), h1, show j + k - j = k by omega]
  rw [List.set_append_right _ _ (by rw [h2]; omega), h2, Nat.sub_self, un_snoc]
  rw [List.drop_eq_getElem_cons h]
  simp [Nat.add_assoc]
theorem ly_step' (zs : List Int) (j k : Nat) (v : Int) (h : j + k < zs.length) : (vs (ly zs j k v)).set (j + k) (.int .u8 (v / 2 ^ (8 * k) % 256)) = vs (ly zs j (k + 1) v) := by
  rw [show (2 : Int) ^ (8 * k) = 256 ^ k by rw [Int.pow_mul]; rfl]; exact ly_step zs j k v h
theorem byteAt (v : Int) (k : Nat) : IntKind.u8.wrap (v / 2 ^ (8 * k)) = v / 256 ^ k % 256 := by
  rw [IntKind.wrap_u8', show (2 : Int) ^ (8 * k) = 256 ^ k by rw [Int.pow_mul]; rfl]
set_option maxHeartbeats 2000000 in
theorem lay (g cap : Nat) (zs : List Int) (j n : Nat) (v : Int) (B : Nat) (w : World) (h : w.ownsRow B 5 1 (.slice (some ⟨g, 0, none⟩) zs.length cap) zs.length (vs zs)) (hg : B ≤ g) (hB : B ≤ w.heap.size) (hgl : g < w.heap.size) (hm : zs.length ≤ 1048576) (hn8 : n ≤ 8) (hl : j + n ≤ zs.length) (v0 : 0 ≤ v) (v1 : v < 18446744073709551616) :
    Calls Tryd.prog 45 #[.agg #[.int .i64 j, .int .i64 n], .slice (some ⟨g, 0, none⟩) zs.length cap, .int .u64 v] w fun e w' =>
      e = .returned (.tuple #[]) ∧ w'.ownsRow B 5 1 (.slice (some ⟨g, 0, none⟩) zs.length cap) zs.length (vs (ly zs j n v)) ∧ Below B w w' := by
  have hst := fun k (h : k < n) => ly_step' zs j k v (by omega)
  have hlen := fun k (h : k ≤ n) => ly_length zs j k v (by omega)
  have h0 := ly_zero zs j v
  have hown0 := h.alloc (.cells #[.int .i64 j, .int .i64 n] 60)
  have hbel0 := (Below.refl B w).alloc hB (.cells #[.int .i64 j, .int .i64 n] 60)
  have n0 := heap_alloc_new w (.cells #[.int .i64 j, .int .i64 n] 60)
  generalize zs.length = len at *
  have HS := TW.hide hst
  have HL := TW.hide hlen
  have H0 := TW.hide h0
  clear hst hlen h0 h
  have hne : g ≠ w.heap.size := by omega
  have hne' : w.heap.size ≠ g := by omega
  go_enter Tryd.func45, Tryd.ntmps45
  go_wp2
  generalize w.alloc (.cells #[.int .i64 j, .int .i64 n] 60) = W at hown0 hbel0 n0 ⊢
  have c0 := blk_cell n0 (i := 0) (v := .int .i64 j) rfl
  have HO := TW.hide hown0
  have HB := TW.hide hbel0
  have C0 := TW.hide c0
  clear hown0 hbel0 n0 c0
  go_loopw [9] (fun i wr => ∃ k : Nat, k ≤ n ∧ i = .int .i64 k ∧ wr.ownsRow B 5 1 (.slice (some ⟨g, 0, none⟩) len cap) len (vs (ly zs j k v)) ∧ Below B w wr ∧ wr.cell? ⟨w.heap.size, 0, none⟩ = some (.int .i64 j)) (fun i _ => n - (intOf i).toNat)
  case atStart => exact ⟨0, Nat.zero_le _, rfl, by rw [H0.out]; exact HO.out, HB.out, C0.out⟩
  case round =>
    obtain ⟨k, hk, rfl, hown, hbel, hcj⟩ := hrel
    by_cases hlt : k < n
    · have hc : wr.cell? ⟨g, j + k, none⟩ = some (.int .u8 ((ly zs j k v).getD (j + k) 0)) := by
        rw [hown.cellAt (j + k) (by omega), vs_get _ _ (by rw [HL.out k (by omega)]; omega)]
      have hf := hown.frozenAt (j + k)
      have hnew := (hown.stored (j + k) (.int .u8 (v / 2 ^ (8 * k) % 256))).1
      rw [HS.out k hlt] at hnew
      have hbn : Below B w (wr.setCell ⟨g, j + k, none⟩ (.int .u8 (v / 2 ^ (8 * k) % 256))) := hbel.setCell hg _
      have hcj' : (wr.setCell ⟨g, j + k, none⟩ (.int .u8 (v / 2 ^ (8 * k) % 256))).cell? ⟨w.heap.size, 0, none⟩ = some (.int .i64 j) := by
        rw [← hcj]; exact World.cell?_of_block (Below.heap_setCell _ _ _ _ hne')
      generalize (ly zs j k v).getD (j + k) 0 = z0 at *
      have HNEW := TW.hide hnew
      have HBN := TW.hide hbn
      have HCJ := TW.hide hcj'
      clear hnew hbn hown hbel hcj'
      go_wp2
      have hw1 : IntKind.i64.wrap (8 * (k : Int)) = 8 * (k : Int) := by rw [IntKind.wrap_i64]; omega
      have hw2 : IntKind.i64.wrap ((j : Int) + (k : Int)) = (j : Int) + (k : Int) := by rw [IntKind.wrap_i64]; omega
      have hk8 : (0 : Int) ≤ 8 * (k : Int) := by omega
      have hi0 : (0 : Int) ≤ (j : Int) + (k : Int) := by omega
      have htn : ((j : Int) + (k : Int)).toNat = j + k := by omega
      have hi1 : (j : Int) + (k : Int) < (len : Int) := by omega
      go_region_held3 (fun w' => w'.cell? ⟨w.heap.size, 0, none⟩ = some (.int .i64 j)) (first | go_keep | (simp [*]; done)) (fail)
      go_wp2
      go_roundw
      case rel => exact ⟨k + 1, by omega, by go_num, HNEW.out.drew, HBN.out.drew, HCJ.out⟩
      case measure => simp [intOf]; omega
    · obtain rfl : k = n := by omega
      have HOW := TW.hide hown
      have HBE := TW.hide hbel
      clear hown hbel
      go_wp2
      go_end0
      exact ⟨rfl, HOW.out, HBE.out⟩
end LW
end Go.Proofs.YteakoajkmcbilabDoor
namespace Go.Proofs.YteakoajkmcbilabDoor
open Go.RowKit
set_option linter.unusedVariables false
set_option linter.unusedSimpArgs false
namespace LW
open Words
theorem un_take (v : Int) (n m : Nat) : (un v (n + m)).take n = un v n := by
  induction n generalizing v with
  | zero => rfl
  | succ n ih => rw [show n + 1 + m = (n + m) + 1 by omega]; simp only [un, List.take_succ_cons]; rw [ih]
theorem ly_head (z : List Int) (j n m : Nat) (v : Int) (h : j ≤ z.length) : (ly z j (n + m) v).take (j + n) = z.take j ++ un v n := by
  have hj : (z.take j).length = j := by simp; omega
  unfold ly
  rw [List.take_append, hj, List.take_of_length_le (by omega), show j + n - j = n by omega, List.take_append, un_length, un_take, show n - (n + m) = 0 by omega, List.take_zero, List.append_nil]
theorem ly_tail (z : List Int) (j n r : Nat) (v : Int) (h : j ≤ z.length) : (ly z j n v).drop (j + n + r) = z.drop (j + n + r) := by
  have hj : (z.take j).length = j := by simp; omega
  unfold ly
  rw [List.drop_append, hj, List.drop_eq_nil_of_le (by omega), List.nil_append, show j + n + r - j = n + r by omega, List.drop_append, un_length, List.drop_eq_nil_of_le (by rw [un_length]; omega), List.nil_append, show n + r - n = r by omega, List.drop_drop]
theorem ly_over (z : List Int) (j n m : Nat) (v u : Int) (h : j + n + m ≤ z.length) : ly (ly z j (n + m) v) (j + n) m u = ly (ly z j n v) (j + n) m u := by
  have e1 := ly_head z j n m v (by omega)
  have e1' := ly_head z j n 0 v (by omega)
  have e2 := ly_tail z j (n + m) 0 v (by omega)
  have e2' := ly_tail z j n m v (by omega)
  rw [Nat.add_zero, ← Nat.add_assoc] at e2
  show (ly z j (n + m) v).take (j + n) ++ (un u m ++ (ly z j (n + m) v).drop (j + n + m)) = (ly z j n v).take (j + n) ++ (un u m ++ (ly z j n v).drop (j + n + m))
  rw [e1, show (ly z j n v).take (j + n) = z.take j ++ un v n from e1', e2', e2]
/-- The block behind so many fields, as the program lays them. -/
def enP (kd : Int) (p : Pm) : Nat → List Int
  | 0 => List.replicate (mo kd).toNat 0
  | k + 1 => ly (enP kd p k) (rAt kd ((k + 1 : Nat) : Int)).toNat (pSz kd ((k + 1 : Nat) : Int) (p.xof != 0)).toNat (p.nv ((k + 1 : Nat) : Int))
/-- As the document lays them. -/
def enR (kd : Int) (p : Pm) : Nat → List Int
  | 0 => List.replicate (mo kd).toNat 0
  | k + 1 => if k + 1 = 7 ∧ (p.xof == 0) = true then enR kd p k else ly (enR kd p k) (rAt kd ((k + 1 : Nat) : Int)).toNat (rSz kd ((k + 1 : Nat) : Int)).toNat (p.nv ((k + 1 : Nat) : Int))
theorem enP_length (kd : Int) (p : Pm) (hk : kd = 1 ∨ kd = 2) : ∀ k, k ≤ 9 → (enP kd p k).length = (mo kd).toNat
  | 0, _ => by simp [enP]
  | k + 1, h => by
    obtain ⟨_, _, _, hl, _⟩ := pFits kd ((k + 1 : Nat) : Int) (p.xof != 0) hk (by omega) (by omega)
    rw [enP, ly_length _ _ _ _ (by rw [enP_length kd p hk k (by omega)]; omega), enP_length kd p hk k (by omega)]
theorem enP_byt (kd : Int) (p : Pm) : ∀ k, Byt (enP kd p k)
  | 0 => fun z hz => by simp [enP] at hz; omega
  | k + 1 => Byt.ly (enP_byt kd p k) _ _ _
theorem enR_enP (kd : Int) (p : Pm) (hk : kd = 1 ∨ kd = 2) : enR kd p 9 = enP kd p 9 := by
  have h5 : enR kd p 5 = enP kd p 5 := by rcases hk with rfl | rfl <;> rfl
  have hl := enP_length kd p hk 5 (by omega)
  cases hx : p.xof == 0 with
  | true =>
    have hx' : (p.xof != 0) = false := by simp [bne, hx]
    have h6 : enR kd p 6 = enP kd p 6 := by
      show ly (enR kd p 5) _ _ _ = ly (enP kd p 5) _ _ _
      rw [h5, hx']
      rcases hk with rfl | rfl <;> rfl
    have h7 : enR kd p 7 = enP kd p 7 := by
      show (if 6 + 1 = 7 ∧ (p.xof == 0) = true then enR kd p 6 else _) = ly (enP kd p 6) _ _ _
      rw [if_pos ⟨rfl, hx⟩, h6, hx']
      rcases hk with rfl | rfl <;> exact (ly_zero _ _ _).symm
    have h8 : enR kd p 8 = enP kd p 8 := by
      show ly (enR kd p 7) _ _ _ = ly (enP kd p 7) _ _ _
      rw [h7]
      rcases hk with rfl | rfl <;> rfl
    show ly (enR kd p 8) _ _ _ = ly (enP kd p 8) _ _ _
    rw [h8]
    rcases hk with rfl | rfl <;> rfl
  | false =>
    have hx' : (p.xof != 0) = true := by simp [bne, hx]
    have h7 : enR kd p 7 = enP kd p 7 := by
      show (if 6 + 1 = 7 ∧ (p.xof == 0) = true then enR kd p 6 else ly (ly (enR kd p 5) _ _ _) _ _ _) = ly (ly (enP kd p 5) _ _ _) _ _ _
      rw [if_neg (by simp [hx]), h5, hx']
      rcases hk with rfl | rfl
      · exact ly_over (enP 1 p 5) 8 4 4 _ _ (by rw [hl]; decide)
      · exact ly_over (enP 2 p 5) 8 4 2 _ _ (by rw [hl]; decide)
    have h8 : enR kd p 8 = enP kd p 8 := by
      show ly (enR kd p 7) _ _ _ = ly (enP kd p 7) _ _ _
      rw [h7]
      rcases hk with rfl | rfl <;> rfl
    show ly (enR kd p 8) _ _ _ = ly (enP kd p 8) _ _ _
    rw [h8]
    rcases hk with rfl | rfl <;> rfl
/-- The whole block. -/
def enL (kd : Int) (p : Pm) (s t : List Int) : List Int := splice (splice (enP kd p 9) (2 * (mo kd / 4).toNat) s) (3 * (mo kd / 4).toNat) t
theorem splice_byt {l s : List Int} (j : Nat) (h : Byt l) (h' : Byt s) : Byt (splice l j s) := (h.take _).append (h'.append (h.drop _))
theorem vs_splice (l s : List Int) (j : Nat) : vs (splice l j s) = splice (vs l) j (vs s) := by simp [vs, splice]
theorem ck_salts {kd : Int} {p : Pm} {sl tl : Nat} (h : p.ck kd sl tl = 0) : sl ≤ (mo kd / 4).toNat ∧ tl ≤ (mo kd / 4).toNat := by
  unfold Pm.ck at h
  rcases ck_kind h with rfl | rfl
  · simp only [LW.ck, if_true] at h
    have := ckG_may h
    have e : (mo 1 / 4).toNat = 16 := rfl
    omega
  · simp only [LW.ck, if_true, show ((2 : Int) = 1) = False by simp, if_false] at h
    have := ckG_may h
    have e : (mo 2 / 4).toNat = 8 := rfl
    omega
theorem row_addr {w : World} {a : Option Addr} {zs : List Int} (h : Row w a zs) (h0 : 0 < zs.length) : ∃ ad, a = some ad ∧ ∀ j v, (vs zs)[j]? = some v → w.cell? (ad.add j) = some v := by
  obtain ⟨b, off, rfl⟩ := h.some_of h0
  exact ⟨_, rfl, row_cells h (Below.refl _ _)⟩
theorem wp_copy_splice {P : Program} {o : Oper} {a : Act} {w : World} {K : Act → World → Prop} {Q : Exit → Act → World → Prop} (hgd : o.guard = none) (d s : Operand) (dT sT : TypeId)
    (ho : o.op = .call { callee := .builtin .copy, args := #[d, s], argTypes := #[dT, sT] }) (elem : TypeId) (hu : P.underlying dT = some (.slice elem)) (hsz : (P.info? elem).map (·.size) = some 1)
    (dp sp : Option Addr) (dLen dCap sLen sCap : Nat) (hd : a.eval d = .slice dp dLen dCap) (hs : a.eval s = .slice sp sLen sCap)
    (g off : Nat) (cur : List Value) (t : TypeId) (hg : w.heap[g]? = some (.cells cur.toArray t (0, 0))) (cs : List Value) (hn : cs.length = Nat.min sLen dLen)
    (hpos : 0 < cs.length → dp = some ⟨g, off, none⟩ ∧ ∃ ad, sp = some ad ∧ ∀ j v, cs[j]? = some v → w.cell? (ad.add j) = some v)
    (hfit : off + cs.length ≤ cur.length) (h1 : ∀ v ∈ cs, v.oneCell' = true) (B : Nat) (w0 : World) (hb : RowKit.Below B w0 w) (hBg : B ≤ g)
    (h : ∀ w', RowKit.Hid (w'.heap[g]? = some (.cells (splice cur off cs).toArray t (0, 0))) → RowKit.Below B w0 w' → K (a.put o.dst (goInt cs.length)) w') : Oper.wp P o a w K Q := by
  have h' := step_copy_splice (ops := #[]) (E := True) (Q := Q) hgd d s dT sT ho elem hu hsz dp sp dLen dCap sLen sCap hd hs g off cur t hg cs hn hpos hfit h1 B w0 hb hBg h
  rw [if_pos (by simp [Region.wanted, hgd])] at h'
  exact h'
end LW
end Go.Proofs.YteakoajkmcbilabDoor
namespace Go.Proofs.YteakoajkmcbilabDoor
open Go.RowKit
set_option linter.unusedVariables false
set_option linter.unusedSimpArgs false
namespace LW
open Words
attribute [local go_sem ↓] Go.wp_at_zero Go.wp_at_succ
theorem mk29 (n : Nat) (h : n ≤ 64) (w : World) : (Instr.makeSlice 24 (.int .i64 (n : Int)) (.int .i64 (n : Int))).run Tryd.prog w = .ok (.slice (some ⟨w.heap.size, 0, none⟩) n n) (w.alloc (.cells (vs (List.replicate n 0)).toArray 5)) := by
  obtain ⟨i0, hi, hz0, hz1, hz2⟩ := info_parts info5
  have h1 := run_makeSlice (P := Tryd.prog) w 24 5 i0 (.int .u8 0) Tryd.underlying24 hi hz0 .i64 .i64 (n : Int) (n : Int) (by omega) (by omega) (by rw [hz1]; omega) (by rw [hz2]; omega) (by omega)
  rw [hz1] at h1
  simp only [Int.toNat_natCast] at h1
  have e : madeCells (Value.int .u8 0).cells (n * 1) = (vs (List.replicate n 0)).toArray := by
    apply Array.ext'
    rw [made_vs]
  rw [e] at h1
  exact h1
theorem own_of_blk {w : World} {g B : Nat} {l : List Int} (h : w.heap[g]? = some (.cells (vs l).toArray 5 (0, 0))) (hB : B ≤ g) (hm : l.length ≤ maxLen) : w.ownsRow B 5 1 (.slice (some ⟨g, 0, none⟩) l.length l.length) l.length (vs l) :=
  ⟨by rw [vs_length, Nat.mul_one], .inr ⟨g, l.length, (vs l).toArray, rfl, hB, h, Nat.le_refl _, hm, by simp [vs_length], by rw [List.toList_toArray]; exact List.take_of_length_le (by rw [vs_length]; omega)⟩⟩
theorem blk_of_own {w : World} {g B n : Nat} {l : List Int} (h : w.ownsRow B 5 1 (.slice (some ⟨g, 0, none⟩) n n) n (vs l)) (hl : l.length = n) : w.heap[g]? = some (.cells (vs l).toArray 5 (0, 0)) := by
  rcases h.2 with ⟨e, _⟩ | ⟨g', cap, cur, e, hg, hh, hn, hm, hc, ht⟩
  · cases e
  · injection e with e1 e2 e3
    injection e1 with e1
    injection e1 with e1
    subst e1 e3
    rw [hh]
    have : cur = (vs l).toArray := by
      apply Array.ext'
      rw [← ht, List.take_of_length_le (by rw [Array.length_toList, hc]; omega)]
    rw [this]
theorem layB (g : Nat) (l : List Int) (j n : Nat) (v : Int) (w : World) (h : w.heap[g]? = some (.cells (vs l).toArray 5 (0, 0))) (hm : l.length ≤ 64) (hn8 : n ≤ 8) (hl : j + n ≤ l.length) (v0 : 0 ≤ v) (v1 : v < 18446744073709551616) :
    Calls Tryd.prog 45 #[.agg #[.int .i64 j, .int .i64 n], .slice (some ⟨g, 0, none⟩) l.length l.length, .int .u64 v] w fun e w' => e = .returned (.tuple #[]) ∧ w'.heap[g]? = some (.cells (vs (ly l j n v)).toArray 5 (0, 0)) ∧ Below g w w' := by
  have hlt := blk_lt h
  refine (lay g l.length l j n v g w (own_of_blk h (Nat.le_refl _) (by unfold maxLen; omega)) (Nat.le_refl _) (by omega) hlt (by omega) hn8 hl v0 v1).mono ?_
  rintro e w' ⟨rfl, ho, hb⟩
  exact ⟨rfl, blk_of_own ho (ly_length l j n v hl), hb⟩
theorem nv_bdE (p : Pm) (hp : p.Ok) (hm : p.May) (f : Int) : 0 ≤ p.nv f ∧ p.nv f < 18446744073709551616 := by
  obtain ⟨o0, o1, x0, x1, l0, l1⟩ := hp
  obtain ⟨d0, d1, k0, k1, f0, f1, e0, e1, n0, n1, i0, i1⟩ := hm
  unfold Pm.nv LW.nv
  repeat' split
  all_goals omega
set_option maxRecDepth 100000 in
set_option maxHeartbeats 4000000 in
theorem encE (kd : Int) (p : Pm) (hp : p.Ok) (sa ta : Option Addr) (sc tc : Nat) (s t : List Int) (w : World) (hE : (p.ck kd s.length t.length != 0) = true) :
    Calls Tryd.prog 14 #[.int .i64 kd, .agg (pcP p (.slice sa s.length sc) (.slice ta t.length tc))] w fun e w' => e = .returned (.tuple #[(.slice none 0 0), .int .i64 (p.ck kd s.length t.length)]) ∧ Below w.heap.size w w' := by
  have H16 := TW.hide (fun W => checkP kd p hp sa ta s.length sc t.length tc W)
  generalize p.ck kd s.length t.length = E at *
  have hb := ((Below.refl w.heap.size w).alloc (Nat.le_refl _) (.cells (pcP p (.slice sa s.length sc) (.slice ta t.length tc)) 26))
  have n0 := (heap_new w (.cells (pcP p (.slice sa s.length sc) (.slice ta t.length tc)) 26))
  go_enter Tryd.func14, Tryd.ntmps14
  refine wp_seq_k fun K hK => ?_
  have HK := TW.hide hK
  clear hK
  go_wp2
  refine HK.out _ _ ?_
  clear HK K
  change Code.wp _ _ _ _ (w.alloc (.cells (pcP p (.slice sa s.length sc) (.slice ta t.length tc)) 26))
  generalize hWW : w.alloc (.cells (pcP p (.slice sa s.length sc) (.slice ta t.length tc)) 26) = W at hb n0 ⊢
  have hW : W.heap.size = w.heap.size + 1 := by rw [← hWW]; simp
  clear hWW
  generalize hB : w.heap.size = B at *
  have N0 := TW.hide n0
  have NB := TW.hide hb
  clear n0 hb
  clear hW
  go_wp2_with (refine wpList_load_row (by rfl) 26 _ (by rfl) (B) (by rfl) 26 (pcP p (.slice sa s.length sc) (.slice ta t.length tc)) (0, 0) _ N0.out Tryd.underlying26 rfl (info31 _ _ _) ?_)
  refine (H16.out _).mono ?_
  rintro e w1 ⟨rfl, hb1⟩
  have MB : Hid (Below B w w1) := below_row NB.out hb1 (by have := blk_lt N0.out; omega)
  clear hb1 N0 NB
  go_wp2
  go_ret2
  exact ⟨rfl, MB.out⟩
set_option maxRecDepth 100000 in
set_option maxHeartbeats 8000000 in
theorem encOk (kd : Int) (p : Pm) (hp : p.Ok) (sa ta : Option Addr) (sc tc : Nat) (s t : List Int) (w : World) (hck : p.ck kd s.length t.length = 0) (h1 : Pb w sa sc s) (h2 : Pb w ta tc t) :
    Calls Tryd.prog 14 #[.int .i64 kd, .agg (pcP p (.slice sa s.length sc) (.slice ta t.length tc))] w fun e w' => ∃ g, e = .returned (.tuple #[.slice (some ⟨g, 0, none⟩) (enL kd p s t).length (enL kd p s t).length, .int .i64 0]) ∧ w.heap.size ≤ g ∧ w'.heap[g]? = some (.cells (vs (enL kd p s t)).toArray 5 (0, 0)) ∧ Below w.heap.size w w' := by
  have H16 : Hid (∀ W, Calls Tryd.prog 13 #[.int .i64 kd, .agg (pcP p (.slice sa s.length sc) (.slice ta t.length tc))] W fun e w' => e = .returned (.int .i64 0) ∧ Below W.heap.size W w') := fun W => by
    have := checkP kd p hp sa ta s.length sc t.length tc W
    rwa [hck] at this
  have hk := ck_kind hck
  have hmay := may_of_ck hck
  have hmo : mo kd = ((mo kd).toNat : Int) := by rcases hk with rfl | rfl <;> rfl
  have hmo2 : 32 ≤ (mo kd).toNat ∧ (mo kd).toNat ≤ 64 := by rcases hk with rfl | rfl <;> decide
  have H9 : Hid (∀ W, Calls Tryd.prog 44 #[.int .i64 kd] W fun e w' => e = .returned (.tuple #[.int .i64 ((mo kd).toNat : Int), .int .i64 (ke kd)]) ∧ Below W.heap.size W w') := fun W => by
    have := size kd W
    rwa [hmo] at this
  generalize hN : (mo kd).toNat = n at *
  have hb := ((Below.refl w.heap.size w).alloc (Nat.le_refl _) (.cells (pcP p (.slice sa s.length sc) (.slice ta t.length tc)) 26))
  have n0 := (heap_new w (.cells (pcP p (.slice sa s.length sc) (.slice ta t.length tc)) 26))
  go_enter Tryd.func14, Tryd.ntmps14
  refine wp_seq_k fun K hK => ?_
  have HK := TW.hide hK
  clear hK
  go_wp2
  refine HK.out _ _ ?_
  clear HK K
  change Code.wp _ _ _ _ (w.alloc (.cells (pcP p (.slice sa s.length sc) (.slice ta t.length tc)) 26))
  generalize hWW : w.alloc (.cells (pcP p (.slice sa s.length sc) (.slice ta t.length tc)) 26) = W at hb n0 ⊢
  have hW : W.heap.size = w.heap.size + 1 := by rw [← hWW]; simp
  clear hWW
  generalize hB : w.heap.size = B at *
  have N0 := TW.hide n0
  have NB := TW.hide hb
  clear n0 hb
  clear hW
  have h00 : ((0 : Int) != 0) = false := rfl
  refine wp_seq_k fun KK hK => ?_
  have HK := TW.hide hK
  clear hK
  go_wp2_with (refine wpList_load_row (by rfl) 26 _ (by rfl) (B) (by rfl) 26 (pcP p (.slice sa s.length sc) (.slice ta t.length tc)) (0, 0) _ N0.out Tryd.underlying26 rfl (info31 _ _ _) ?_)
  refine (H16.out _).mono ?_
  rintro e w1 ⟨rfl, hb1⟩
  have M0 := TW.hide (blk_keep N0.out hb1)
  have MB : Hid (Below B w w1) := below_row NB.out hb1 (by have := blk_lt N0.out; omega)
  clear hb1 N0 NB
  go_wp2
  refine HK.out _ _ ?_
  clear HK KK
  refine wp_seq_k fun KK hK => ?_
  have HK := TW.hide hK
  clear hK
  go_wp2_with fail
  refine (H9.out _).mono ?_
  rintro e w2 ⟨rfl, hb2⟩
  have N0 := TW.hide (blk_keep M0.out hb2)
  have NB : Hid (Below B w w2) := below_row MB.out hb2 (by have := blk_lt M0.out; omega)
  clear hb2 M0 MB
  go_wp2
  refine HK.out _ _ ?_
  clear HK KK
  refine wp_seq_k fun KK hK => ?_
  have HK := TW.hide hK
  clear hK
  have hmk := mk29 n hmo2.2 w2
  go_wp2
  clear hmk
  have nx := heap_new w2 (.cells (vs (List.replicate n 0)).toArray 5)
  have bx := (Below.refl w2.heap.size w2).alloc (Nat.le_refl _) (.cells (vs (List.replicate n 0)).toArray 5)
  generalize w2.alloc (.cells (vs (List.replicate n 0)).toArray 5) = X at nx bx ⊢
  have hBg := blk_lt N0.out
  have M0 := TW.hide (blk_keep N0.out bx)
  have MB : Hid (Below B w X) := below_row NB.out bx (by omega)
  have MG : Hid (X.heap[w2.heap.size]? = some (.cells (vs (enP kd p 0)).toArray 5 (0, 0))) := by show _ = _; rw [nx]; unfold enP; rw [hN]
  clear nx bx N0 NB
  generalize w2.heap.size = g at *
  refine HK.out _ _ ?_
  clear HK KK
  have hlen := TW.hide (fun k h => (enP_length kd p hk k h).trans hN)
  have HBD := TW.hide (fun f => nv_bdE p hp hmay f)
  have H40 := TW.hide (fun (k : Nat) (W : World) (h1 : k ≤ 8) => placeOf ((k + 1 : Nat) : Int) kd (p.xof != 0) W (by omega) (by omega))
  have H45 := TW.hide (fun (k : Nat) (W : World) (h1 : k ≤ 8) => numberP p hp hmay sa ta s.length t.length sc tc ((k + 1 : Nat) : Int) W (by omega) (by omega))
  have HPF := TW.hide (fun (k : Nat) (h : k ≤ 8) => pFits kd ((k + 1 : Nat) : Int) (p.xof != 0) hk (by omega) (by omega))
  have hs4 : 4 * (mo kd / 4).toNat = n := by rw [← hN]; rcases hk with rfl | rfl <;> rfl
  have hat : rAt kd 10 = ((2 * (mo kd / 4).toNat : Nat) : Int) ∧ rSz kd 10 = ((mo kd / 4).toNat : Int) ∧ rAt kd 11 = ((3 * (mo kd / 4).toNat : Nat) : Int) ∧ rSz kd 11 = ((mo kd / 4).toNat : Int) := by rcases hk with rfl | rfl <;> decide
  have H48 := TW.hide (fun W => whole 10 kd W (by omega) (by omega))
  have H48b := TW.hide (fun W => whole 11 kd W (by omega) (by omega))
  rw [hat.1, hat.2.1] at H48
  rw [hat.2.2.1, hat.2.2.2] at H48b
  have hsl : s.length ≤ (mo kd / 4).toNat ∧ t.length ≤ (mo kd / 4).toNat := ck_salts hck
  have hEN : enL kd p s t = splice (splice (enP kd p 9) (2 * (mo kd / 4).toNat) s) (3 * (mo kd / 4).toNat) t := rfl
  generalize (mo kd / 4).toNat = s4 at *
  have HEN := TW.hide hEN
  have HS4 := TW.hide hs4
  have HSL := TW.hide hsl
  have HR1 := TW.hide (fun W (hb : Below B w W) => h1.row.below (hB ▸ hb))
  have HR2 := TW.hide (fun W (hb : Below B w W) => h2.row.below (hB ▸ hb))
  have H49b : Hid (∀ W : World, Calls Tryd.prog 48 #[.agg #[.int .i64 ((2 * s4 : Nat) : Int), .int .i64 (s4 : Int)], .slice (some ⟨g, 0, none⟩) n n] W fun e w' => e = .returned (.slice (some ⟨g, 0 + 2 * s4, none⟩) s4 (n - 2 * s4)) ∧ Below W.heap.size W w') := fun W =>
    spanOf g 0 n n (2 * s4) s4 W (by omega) (Nat.le_refl _) (by omega) (by unfold maxLen; omega)
  have H49c : Hid (∀ W : World, Calls Tryd.prog 48 #[.agg #[.int .i64 ((3 * s4 : Nat) : Int), .int .i64 (s4 : Int)], .slice (some ⟨g, 0, none⟩) n n] W fun e w' => e = .returned (.slice (some ⟨g, 0 + 3 * s4, none⟩) s4 (n - 3 * s4)) ∧ Below W.heap.size W w') := fun W =>
    spanOf g 0 n n (3 * s4) s4 W (by omega) (Nat.le_refl _) (by omega) (by unfold maxLen; omega)
  have HMO := TW.hide hmo
  clear hat hs4 hsl hEN h1 h2 H9 H16 hmo
  go_wp2
  go_loopw [10] (fun i wr => ∃ k : Nat, k ≤ 9 ∧ i = .int .i64 ((k + 1 : Nat) : Int) ∧ wr.heap[B]? = some (.cells (pcP p (.slice sa s.length sc) (.slice ta t.length tc)) 26 (0, 0)) ∧ wr.heap[g]? = some (.cells (vs (enP kd p k)).toArray 5 (0, 0)) ∧ Below B w wr) (fun i _ => 10 - (intOf i).toNat)
  case atStart => exact ⟨0, Nat.zero_le _, rfl, M0.out, MG.out, MB.out⟩
  case round =>
    rename_i Q1 K1 a1
    obtain ⟨k, hk9, rfl, n0, ng, hb⟩ := hrel
    clear M0 MG MB X
    by_cases hlt : k < 9
    · have hst : enP kd p (k + 1) = ly (enP kd p k) (rAt kd ((k + 1 : Nat) : Int)).toNat (pSz kd ((k + 1 : Nat) : Int) (p.xof != 0)).toNat (p.nv ((k + 1 : Nat) : Int)) := rfl
      obtain ⟨e1, e2, l8, lf, _⟩ := HPF.out k (by omega)
      have c40 := TW.hide (fun W => H40.out k W (by omega))
      have c45 := TW.hide (fun W => H45.out k W (by omega))
      rw [e1, e2] at c40
      obtain ⟨v0, v1⟩ := HBD.out ((k + 1 : Nat) : Int)
      have hle := hlen.out k (by omega)
      have c47 : Hid (∀ W : World, W.heap[g]? = some (.cells (vs (enP kd p k)).toArray 5 (0, 0)) → Calls Tryd.prog 45 #[.agg #[.int .i64 ((rAt kd ((k + 1 : Nat) : Int)).toNat : Int), .int .i64 ((pSz kd ((k + 1 : Nat) : Int) (p.xof != 0)).toNat : Int)], .slice (some ⟨g, 0, none⟩) n n, .int .u64 (p.nv ((k + 1 : Nat) : Int))] W fun e w' => e = .returned (.tuple #[]) ∧ w'.heap[g]? = some (.cells (vs (enP kd p (k + 1))).toArray 5 (0, 0)) ∧ Below g W w') := fun W hW => by
        have := layB g (enP kd p k) (rAt kd ((k + 1 : Nat) : Int)).toNat (pSz kd ((k + 1 : Nat) : Int) (p.xof != 0)).toNat (p.nv ((k + 1 : Nat) : Int)) W hW (by omega) l8 (by have := HMO.out; omega) v0 v1
        rw [hle, ← hst] at this
        exact this
      clear hst e1 e2 l8 lf v0 v1 hle
      generalize (rAt kd ((k + 1 : Nat) : Int)).toNat = ra at *
      generalize (pSz kd ((k + 1 : Nat) : Int) (p.xof != 0)).toNat = pz at *
      generalize p.nv ((k + 1 : Nat) : Int) = vv at *
      generalize hk1 : k + 1 = k1 at *
      have HT0 : Hid (wr.drew.heap[B]? = some (.cells (pcP p (.slice sa s.length sc) (.slice ta t.length tc)) 26 (0, 0)) ∧ Below B w wr.drew) := ⟨n0, below_drewN hb 1⟩
      have NG0 : Hid (wr.drew.heap[g]? = some (.cells (vs (enP kd p k)).toArray 5 (0, 0))) := ng
      clear n0 ng hb
      have k9 : (k1 : Int) ≤ 9 := by omega
      go_wp2
      refine wp_region_noPanic ?_
      refine RG.wp_region_L (fun Z => True) (fun Z => Z.heap[B]? = some (.cells (pcP p (.slice sa s.length sc) (.slice ta t.length tc)) 26 (0, 0)) ∧ Below B w Z) [] (by kernel_rfl) ?_
      generalize wr.drew = Y0 at *
      refine RG.wpL_take (fuel := 3) (a' := ?A) [0, 1, 2, 3, 4, 6, 7, 8] (by kernel_rfl) (by kernel_rfl) (fun _ _ _ _ _ h => h) HT0.out (fun _ => trivial) ?r ?_
      case r =>
        refine RG.RunsIf.weak (v := ?_) (by rfl) (by rfl) (fun Z hT => ?_) ?_
        rotate_left
        · skip
          go_simp
          rfl
        simp only [Act.put, List.setIfInBounds_toArray, List.set_cons_zero, List.set_cons_succ, List.getElem_toArray, List.getElem_cons_zero, List.getElem_cons_succ]
        refine RG.RunsIf.weak (v := ?_) (by rfl) (by rfl) (fun Z hT => ?_) ?_
        rotate_left
        · skip
          go_simp
          rfl
        simp only [Act.put, List.setIfInBounds_toArray, List.set_cons_zero, List.set_cons_succ, List.getElem_toArray, List.getElem_cons_zero, List.getElem_cons_succ]
        refine RG.RunsIf.weak (v := ?_) (by rfl) (by rfl) (fun Z hT => ?_) ?_
        rotate_left
        · skip
          go_simp
          rfl
        simp only [Act.put, List.setIfInBounds_toArray, List.set_cons_zero, List.set_cons_succ, List.getElem_toArray, List.getElem_cons_zero, List.getElem_cons_succ]
        refine RG.RunsIf.weak (v := ?_) (by rfl) (by rfl) (fun Z hT => ?_) ?_
        rotate_left
        · have c : Z.cell? ⟨B, 6, none⟩ = some (.int .u32 p.xof) := blk_cell hT.1 rfl
          go_simp
          rfl
        simp only [Act.put, List.setIfInBounds_toArray, List.set_cons_zero, List.set_cons_succ, List.getElem_toArray, List.getElem_cons_zero, List.getElem_cons_succ]
        refine RG.RunsIf.weak (v := ?_) (by rfl) (by rfl) (fun Z hT => ?_) ?_
        rotate_left
        · skip
          go_simp
          rfl
        simp only [Act.put, List.setIfInBounds_toArray, List.set_cons_zero, List.set_cons_succ, List.getElem_toArray, List.getElem_cons_zero, List.getElem_cons_succ]
        refine RG.RunsIf.weak (v := ?_) (by rfl) (by rfl) (fun Z hT => ?_) ?_
        rotate_left
        · skip
          go_simp
          rfl
        simp only [Act.put, List.setIfInBounds_toArray, List.set_cons_zero, List.set_cons_succ, List.getElem_toArray, List.getElem_cons_zero, List.getElem_cons_succ]
        refine RG.RunsIf.weak (by rfl) (by rfl) (fun Z hT => exec_load_row 26 _ (by rfl) (B) (by rfl) 26 (pcP p (.slice sa s.length sc) (.slice ta t.length tc)) (0, 0) _ hT.1 Tryd.underlying26 rfl (info31 _ _ _)) ?_
        simp only [Act.put, List.setIfInBounds_toArray, List.set_cons_zero, List.set_cons_succ, List.getElem_toArray, List.getElem_cons_zero, List.getElem_cons_succ]
        refine RG.RunsIf.weak (v := ?_) (by rfl) (by rfl) (fun Z hT => ?_) ?_
        rotate_left
        · skip
          go_simp
          rfl
        simp only [Act.put, List.setIfInBounds_toArray, List.set_cons_zero, List.set_cons_succ, List.getElem_toArray, List.getElem_cons_zero, List.getElem_cons_succ]
        exact RG.RunsIf.nil
      refine RG.wpL_step (i := 5) (by kernel_rfl) (by rfl) (by rfl) (fun K hK => ?_)
      have HK := TW.hide hK
      clear hK
      go_simp
      refine (c40.out _).mono ?_
      rintro e w3 ⟨rfl, hbb⟩
      have HT1 : Hid (w3.heap[B]? = some (.cells (pcP p (.slice sa s.length sc) (.slice ta t.length tc)) 26 (0, 0)) ∧ Below B w w3) := ⟨blk_keep HT0.out.1 hbb, below_row HT0.out.2 hbb (by have := blk_lt HT0.out.1; omega)⟩
      have NG1 := TW.hide (blk_keep NG0.out hbb)
      refine HK.out _ _ HT1.out (fun _ => trivial) ?_
      clear HK K hbb HT0 NG0
      refine RG.wpL_step (i := 9) (by kernel_rfl) (by rfl) (by rfl) (fun K hK => ?_)
      have HK := TW.hide hK
      clear hK
      go_simp
      refine (c45.out _).mono ?_
      rintro e w4 ⟨rfl, hbb⟩
      have HT2 : Hid (w4.heap[B]? = some (.cells (pcP p (.slice sa s.length sc) (.slice ta t.length tc)) 26 (0, 0)) ∧ Below B w w4) := ⟨blk_keep HT1.out.1 hbb, below_row HT1.out.2 hbb (by have := blk_lt HT1.out.1; omega)⟩
      have NG2 := TW.hide (blk_keep NG1.out hbb)
      refine HK.out _ _ HT2.out (fun _ => trivial) ?_
      clear HK K hbb HT1 NG1
      refine RG.wpL_step (i := 10) (by kernel_rfl) (by rfl) (by rfl) (fun K hK => ?_)
      have HK := TW.hide hK
      clear hK
      go_simp
      refine (c47.out _ NG2.out).mono ?_
      rintro e w5 ⟨rfl, ng, hbb⟩
      have HT3 : Hid (w5.heap[B]? = some (.cells (pcP p (.slice sa s.length sc) (.slice ta t.length tc)) 26 (0, 0)) ∧ Below B w w5) := ⟨by rw [hbb.block B (by omega)]; exact HT2.out.1, HT2.out.2.trans (hbb.mono (by omega))⟩
      have NG3 := TW.hide ng
      refine HK.out _ _ HT3.out (fun _ => trivial) ?_
      clear HK K hbb ng HT2 NG2
      refine RG.wpL_done (by kernel_rfl) ?_ _
      refine NoPanic.normal ?_
      go_wp2
      (first | (go_roundw; case' rel => skip) | (refine ⟨?_, ?measure⟩; (repeat apply Exists.intro); refine ⟨?rel, rfl⟩))
      case rel => exact ⟨k + 1, by omega, by rw [hk1]; go_num, HT3.out.1, by rw [hk1]; exact NG3.out, HT3.out.2⟩
      case measure => simp [intOf]; omega
    · obtain rfl : k = 9 := by omega
      have HA := TW.hide a1
      clear a1 H40 H45 HPF HBD
      have HT0 : Hid (wr.heap[B]? = some (.cells (pcP p (.slice sa s.length sc) (.slice ta t.length tc)) 26 (0, 0)) ∧ Below B w wr) := ⟨n0, hb⟩
      have NG := TW.hide ng
      clear n0 ng hb
      go_wp2
      refine HA.out _ _ ?_
      clear HA
      refine wp_seq_k fun KK hKK => ?_
      have HKK := TW.hide hKK
      clear hKK
      refine wp_region_noPanic ?_
      refine RG.wp_region_L (fun Z => True) (fun Z => Z.heap[B]? = some (.cells (pcP p (.slice sa s.length sc) (.slice ta t.length tc)) 26 (0, 0)) ∧ Below B w Z) [] (by kernel_rfl) ?_
      have HT1 : Hid (wr.drew.heap[B]? = some (.cells (pcP p (.slice sa s.length sc) (.slice ta t.length tc)) 26 (0, 0)) ∧ Below B w wr.drew) := ⟨HT0.out.1, below_drewN HT0.out.2 1⟩
      have NG1 : Hid (wr.drew.heap[g]? = some (.cells (vs (enP kd p 9)).toArray 5 (0, 0))) := NG.out
      clear HT0 NG
      generalize wr.drew = Ya at *
      refine RG.wpL_take (fuel := 3) (a' := ?Aa) [0, 2, 4, 5] (by kernel_rfl) (by kernel_rfl) (fun _ _ _ _ _ h => h) HT1.out (fun _ => trivial) ?ra ?_
      case ra =>
        refine RG.RunsIf.weak (v := ?_) (by rfl) (by rfl) (fun Z hT => ?_) ?_
        rotate_left
        · skip
          go_simp
          rfl
        simp only [Act.put, List.setIfInBounds_toArray, List.set_cons_zero, List.set_cons_succ, List.getElem_toArray, List.getElem_cons_zero, List.getElem_cons_succ]
        refine RG.RunsIf.weak (v := ?_) (by rfl) (by rfl) (fun Z hT => ?_) ?_
        rotate_left
        · skip
          go_simp
          rfl
        simp only [Act.put, List.setIfInBounds_toArray, List.set_cons_zero, List.set_cons_succ, List.getElem_toArray, List.getElem_cons_zero, List.getElem_cons_succ]
        refine RG.RunsIf.weak (v := ?_) (by rfl) (by rfl) (fun Z hT => ?_) ?_
        rotate_left
        · skip
          go_simp
          rfl
        simp only [Act.put, List.setIfInBounds_toArray, List.set_cons_zero, List.set_cons_succ, List.getElem_toArray, List.getElem_cons_zero, List.getElem_cons_succ]
        refine RG.RunsIf.weak (v := ?_) (by rfl) (by rfl) (fun Z hT => ?_) ?_
        rotate_left
        · have c : Z.cell? ⟨B, 9, none⟩ = some (.slice sa s.length sc) := blk_cell hT.1 rfl
          go_simp
          rfl
        simp only [Act.put, List.setIfInBounds_toArray, List.set_cons_zero, List.set_cons_succ, List.getElem_toArray, List.getElem_cons_zero, List.getElem_cons_succ]
        exact RG.RunsIf.nil
      refine RG.wpL_step (i := 1) (by kernel_rfl) (by rfl) (by rfl) (fun K hK => ?_)
      have HK := TW.hide hK
      clear hK
      go_simp
      refine (H48.out _).mono ?_
      rintro e w6 ⟨rfl, hbb⟩
      have HT2 : Hid (w6.heap[B]? = some (.cells (pcP p (.slice sa s.length sc) (.slice ta t.length tc)) 26 (0, 0)) ∧ Below B w w6) := ⟨blk_keep HT1.out.1 hbb, below_row HT1.out.2 hbb (by have := blk_lt HT1.out.1; omega)⟩
      have NG2 := TW.hide (blk_keep NG1.out hbb)
      refine HK.out _ _ HT2.out (fun _ => trivial) ?_
      clear HK K hbb HT1 NG1
      refine RG.wpL_step (i := 3) (by kernel_rfl) (by rfl) (by rfl) (fun K hK => ?_)
      have HK := TW.hide hK
      clear hK
      go_simp
      refine (H49b.out _).mono ?_
      rintro e w7 ⟨rfl, hbb⟩
      have HT3 : Hid (w7.heap[B]? = some (.cells (pcP p (.slice sa s.length sc) (.slice ta t.length tc)) 26 (0, 0)) ∧ Below B w w7) := ⟨blk_keep HT2.out.1 hbb, below_row HT2.out.2 hbb (by have := blk_lt HT2.out.1; omega)⟩
      have NG3 := TW.hide (blk_keep NG2.out hbb)
      refine HK.out _ _ HT3.out (fun _ => trivial) ?_
      clear HK K hbb HT2 NG2
      refine RG.wpL_step (i := 6) (by kernel_rfl) (by rfl) (by rfl) (fun K hK => ?_)
      have HK := TW.hide hK
      clear hK
      have hrow := HR1.out w7 HT3.out.2
      have hsl := HSL.out
      have hs4 := HS4.out
      have hcl : (vs (enP kd p 9)).length = n := by rw [vs_length]; exact hlen.out 9 (by omega)
      refine wp_copy_splice (by rfl) _ _ 24 24 (by rfl) 5 Tryd.underlying24 (by kernel_rfl) _ _ _ _ _ _ (by rfl) (by rfl) g (2 * s4) (vs (enP kd p 9)) 5 NG3.out (vs s) (by rw [vs_length]; exact (Nat.min_eq_left (by omega)).symm) (fun hp0 => ⟨by rw [Nat.zero_add], row_addr hrow (by rw [vs_length] at hp0; omega)⟩) (by rw [hcl, vs_length]; omega) (oneCell_vs s) g w7 (Below.refl _ _) (Nat.le_refl _) ?_
      intro w8 hg8 hb8
      have HT0 : Hid (w8.heap[B]? = some (.cells (pcP p (.slice sa s.length sc) (.slice ta t.length tc)) 26 (0, 0)) ∧ Below B w w8) := ⟨by rw [hb8.block B (by omega)]; exact HT3.out.1, HT3.out.2.trans (hb8.mono (by omega))⟩
      have NG : Hid (w8.heap[g]? = some (.cells (vs (splice (enP kd p 9) (2 * s4) s)).toArray 5 (0, 0))) := by show _ = _; rw [vs_splice]; exact hg8.out
      refine HK.out _ _ HT0.out (fun _ => trivial) ?_
      clear HK K hb8 hg8 HT3 NG3 hrow hsl hs4 hcl
      refine RG.wpL_done (by kernel_rfl) ?_ _
      refine NoPanic.normal ?_
      refine HKK.out _ _ ?_
      clear HKK KK
      refine wp_seq_k fun KK hKK => ?_
      have HKK := TW.hide hKK
      clear hKK
      refine wp_region_noPanic ?_
      refine RG.wp_region_L (fun Z => True) (fun Z => Z.heap[B]? = some (.cells (pcP p (.slice sa s.length sc) (.slice ta t.length tc)) 26 (0, 0)) ∧ Below B w Z) [] (by kernel_rfl) ?_
      have HT1 : Hid (w8.drew.heap[B]? = some (.cells (pcP p (.slice sa s.length sc) (.slice ta t.length tc)) 26 (0, 0)) ∧ Below B w w8.drew) := ⟨HT0.out.1, below_drewN HT0.out.2 1⟩
      have NG1 : Hid (w8.drew.heap[g]? = some (.cells (vs (splice (enP kd p 9) (2 * s4) s)).toArray 5 (0, 0))) := NG.out
      clear HT0 NG
      generalize w8.drew = Yb at *
      refine RG.wpL_take (fuel := 3) (a' := ?Ab) [0, 2, 4, 5] (by kernel_rfl) (by kernel_rfl) (fun _ _ _ _ _ h => h) HT1.out (fun _ => trivial) ?rb ?_
      case rb =>
        refine RG.RunsIf.weak (v := ?_) (by rfl) (by rfl) (fun Z hT => ?_) ?_
        rotate_left
        · skip
          go_simp
          rfl
        simp only [Act.put, List.setIfInBounds_toArray, List.set_cons_zero, List.set_cons_succ, List.getElem_toArray, List.getElem_cons_zero, List.getElem_cons_succ]
        refine RG.RunsIf.weak (v := ?_) (by rfl) (by rfl) (fun Z hT => ?_) ?_
        rotate_left
        · skip
          go_simp
          rfl
        simp only [Act.put, List.setIfInBounds_toArray, List.set_cons_zero, List.set_cons_succ, List.getElem_toArray, List.getElem_cons_zero, List.getElem_cons_succ]
        refine RG.RunsIf.weak (v := ?_) (by rfl) (by rfl) (fun Z hT => ?_) ?_
        rotate_left
        · skip
          go_simp
          rfl
        simp only [Act.put, List.setIfInBounds_toArray, List.set_cons_zero, List.set_cons_succ, List.getElem_toArray, List.getElem_cons_zero, List.getElem_cons_succ]
        refine RG.RunsIf.weak (v := ?_) (by rfl) (by rfl) (fun Z hT => ?_) ?_
        rotate_left
        · have c : Z.cell? ⟨B, 10, none⟩ = some (.slice ta t.length tc) := blk_cell hT.1 rfl
          go_simp
          rfl
        simp only [Act.put, List.setIfInBounds_toArray, List.set_cons_zero, List.set_cons_succ, List.getElem_toArray, List.getElem_cons_zero, List.getElem_cons_succ]
        exact RG.RunsIf.nil
      refine RG.wpL_step (i := 1) (by kernel_rfl) (by rfl) (by rfl) (fun K hK => ?_)
      have HK := TW.hide hK
      clear hK
      go_simp
      refine (H48b.out _).mono ?_
      rintro e w6 ⟨rfl, hbb⟩
      have HT2 : Hid (w6.heap[B]? = some (.cells (pcP p (.slice sa s.length sc) (.slice ta t.length tc)) 26 (0, 0)) ∧ Below B w w6) := ⟨blk_keep HT1.out.1 hbb, below_row HT1.out.2 hbb (by have := blk_lt HT1.out.1; omega)⟩
      have NG2 := TW.hide (blk_keep NG1.out hbb)
      refine HK.out _ _ HT2.out (fun _ => trivial) ?_
      clear HK K hbb HT1 NG1
      refine RG.wpL_step (i := 3) (by kernel_rfl) (by rfl) (by rfl) (fun K hK => ?_)
      have HK := TW.hide hK
      clear hK
      go_simp
      refine (H49c.out _).mono ?_
      rintro e w7 ⟨rfl, hbb⟩
      have HT3 : Hid (w7.heap[B]? = some (.cells (pcP p (.slice sa s.length sc) (.slice ta t.length tc)) 26 (0, 0)) ∧ Below B w w7) := ⟨blk_keep HT2.out.1 hbb, below_row HT2.out.2 hbb (by have := blk_lt HT2.out.1; omega)⟩
      have NG3 := TW.hide (blk_keep NG2.out hbb)
      refine HK.out _ _ HT3.out (fun _ => trivial) ?_
      clear HK K hbb HT2 NG2
      refine RG.wpL_step (i := 6) (by kernel_rfl) (by rfl) (by rfl) (fun K hK => ?_)
      have HK := TW.hide hK
      clear hK
      have hrow := HR2.out w7 HT3.out.2
      have hsl := HSL.out
      have hs4 := HS4.out
      have hcl : (vs (splice (enP kd p 9) (2 * s4) s)).length = n := by rw [vs_length]; rw [length_splice _ _ _ (by have := hlen.out 9 (by omega); omega)]; exact hlen.out 9 (by omega)
      refine wp_copy_splice (by rfl) _ _ 24 24 (by rfl) 5 Tryd.underlying24 (by kernel_rfl) _ _ _ _ _ _ (by rfl) (by rfl) g (3 * s4) (vs (splice (enP kd p 9) (2 * s4) s)) 5 NG3.out (vs t) (by rw [vs_length]; exact (Nat.min_eq_left (by omega)).symm) (fun hp0 => ⟨by rw [Nat.zero_add], row_addr hrow (by rw [vs_length] at hp0; omega)⟩) (by rw [hcl, vs_length]; omega) (oneCell_vs t) g w7 (Below.refl _ _) (Nat.le_refl _) ?_
      intro w9 hg8 hb8
      have HT0 : Hid (w9.heap[B]? = some (.cells (pcP p (.slice sa s.length sc) (.slice ta t.length tc)) 26 (0, 0)) ∧ Below B w w9) := ⟨by rw [hb8.block B (by omega)]; exact HT3.out.1, HT3.out.2.trans (hb8.mono (by omega))⟩
      have NG : Hid (w9.heap[g]? = some (.cells (vs (splice (splice (enP kd p 9) (2 * s4) s) (3 * s4) t)).toArray 5 (0, 0))) := by show _ = _; rw [vs_splice]; exact hg8.out
      refine HK.out _ _ HT0.out (fun _ => trivial) ?_
      clear HK K hb8 hg8 HT3 NG3 hrow hsl hs4 hcl
      refine RG.wpL_done (by kernel_rfl) ?_ _
      refine NoPanic.normal ?_
      refine HKK.out _ _ ?_
      clear HKK KK
      have e := HEN.out
      rw [← e] at NG
      have hle2 : (enL kd p s t).length = n := by
        rw [e, length_splice _ _ _ (by rw [length_splice _ _ _ (by have := hlen.out 9 (by omega); have := HS4.out; have := HSL.out; omega)]; have := hlen.out 9 (by omega); have := HS4.out; have := HSL.out; omega), length_splice _ _ _ (by have := hlen.out 9 (by omega); have := HS4.out; have := HSL.out; omega)]
        exact hlen.out 9 (by omega)
      have HLE := TW.hide hle2
      clear hle2 e
      go_wp2
      go_ret2
      exact ⟨g, by rw [HLE.out]; rfl, by omega, NG.out, HT0.out.2⟩
end LW
end Go.Proofs.YteakoajkmcbilabDoor
namespace Go.Proofs.YteakoajkmcbilabDoor
open Go.RowKit
set_option linter.unusedVariables false
set_option linter.unusedSimpArgs false
namespace LW
open Words
/-- What is told beside an error, or without one. -/
def eS (E : Int) (l : List Int) : List Int := if E = 0 then l else []
theorem enL_length (kd : Int) (p : Pm) (s t : List Int) (h : p.ck kd s.length t.length = 0) : (enL kd p s t).length = (mo kd).toNat := by
  have hk := ck_kind h
  have hsl := ck_salts h
  have h9 := enP_length kd p hk 9 (by omega)
  have hs4 : 4 * (mo kd / 4).toNat = (mo kd).toNat := by rcases hk with rfl | rfl <;> rfl
  unfold enL
  rw [length_splice _ _ _ (by rw [length_splice _ _ _ (by omega)]; omega), length_splice _ _ _ (by omega)]
  exact h9
theorem enL_byt (kd : Int) (p : Pm) (s t : List Int) (hs : Byt s) (ht : Byt t) : Byt (enL kd p s t) := splice_byt _ (splice_byt _ (enP_byt kd p 9) hs) ht
theorem mo_le (kd : Int) : (mo kd).toNat ≤ 64 := by
  unfold mo
  split
  · decide
  · split <;> decide
theorem blk_Pa {w : World} {g : Nat} {l : List Int} (h : w.heap[g]? = some (.cells (vs l).toArray 5 (0, 0))) (hb : Byt l) (hl : l.length ≤ 64) : Pa w (some ⟨g, 0, none⟩) l.length l :=
  ⟨⟨.inr ⟨g, 0, rfl, fun i hi => by rw [Nat.zero_add]; exact blk_cell h (by rw [List.getElem?_toArray, vs_get l i hi])⟩, (fun h => by cases h), by omega, Nat.le_refl _, hb⟩, fun ad h => ⟨g, 0, by cases h; rfl⟩⟩
theorem nil_Pa (w : World) : Pa w none 0 [] := ⟨⟨.inl rfl, (fun _ => rfl), by simp, Nat.le_refl _, Byt.nil⟩, fun ad h => by cases h⟩
/-- What both tell. -/
def EncSays (kd : Int) (p : Pm) (s t : List Int) (w : World) (e : Ending) (w' : World) : Prop :=
  ∃ a c, e = .returned (.tuple #[.slice a (eS (p.ck kd s.length t.length) (enL kd p s t)).length c, .int .i64 (p.ck kd s.length t.length)]) ∧ Pa w' a c (eS (p.ck kd s.length t.length) (enL kd p s t)) ∧ c ≤ 64 ∧
    w'.ownsRow w.heap.size 5 1 (.slice a (eS (p.ck kd s.length t.length) (enL kd p s t)).length c) (eS (p.ck kd s.length t.length) (enL kd p s t)).length (vs (eS (p.ck kd s.length t.length) (enL kd p s t))) ∧ Below w.heap.size w w'
theorem encP (kd : Int) (p : Pm) (hp : p.Ok) (sa ta : Option Addr) (sc tc : Nat) (s t : List Int) (w : World) (h1 : Pb w sa sc s) (h2 : Pb w ta tc t) :
    Calls Tryd.prog 14 #[.int .i64 kd, .agg (pcP p (.slice sa s.length sc) (.slice ta t.length tc))] w (EncSays kd p s t w) := by
  by_cases hE : p.ck kd s.length t.length = 0
  · refine (encOk kd p hp sa ta sc tc s t w hE h1 h2).mono ?_
    rintro e w' ⟨g, rfl, hg, hh, hb⟩
    have hl := enL_length kd p s t hE
    have hm := mo_le kd
    unfold EncSays
    rw [hE]
    simp only [eS, if_true]
    exact ⟨_, _, rfl, blk_Pa hh (enL_byt kd p s t h1.byt h2.byt) (by omega), by omega, own_of_blk hh hg (by unfold maxLen; omega), hb⟩
  · refine (encE kd p hp sa ta sc tc s t w (bne0 hE)).mono ?_
    rintro e w' ⟨rfl, hb⟩
    unfold EncSays
    simp only [eS, hE, if_false]
    exact ⟨none, 0, rfl, nil_Pa _, by omega, nil_own _ _, hb⟩
/-- A row of words. -/
def RowU (w : World) (a : Option Addr) (l : List Int) : Prop := l = [] ∨ ∃ g, a = some ⟨g, 0, none⟩ ∧ ∀ i, i < l.length → w.cell? ⟨g, i, none⟩ = some (.int .u64 (l.getD i 0))
theorem RowU.below {w w' : World} {a : Option Addr} {l : List Int} (h : RowU w a l) (hb : Below w.heap.size w w') : RowU w' a l := by
  rcases h with h | ⟨g, rfl, hc⟩
  · exact .inl h
  · exact .inr ⟨g, rfl, fun i hi => by rw [hb.cell (lt_of_cell (hc i hi))]; exact hc i hi⟩
/-- The words of a block. -/
def wd (kd : Int) : Nat := (mo kd / 8).toNat
def woL (kd : Int) (l : List Int) : List Int := (List.range 8).map fun i => le ((l.drop (i * wd kd)).take (wd kd))
theorem woL_length (kd : Int) (l : List Int) : (woL kd l).length = 8 := by simp [woL]
theorem woL_get (kd : Int) (l : List Int) (i : Nat) (h : i < 8) : (woL kd l).getD i 0 = le ((l.drop (i * wd kd)).take (wd kd)) := by
  simp [woL, List.getD_eq_getElem?_getD, h]
end LW
end Go.Proofs.YteakoajkmcbilabDoor
namespace Go.Proofs.YteakoajkmcbilabDoor
open Go.RowKit
set_option linter.unusedVariables false
set_option linter.unusedSimpArgs false
namespace LW
open Words
theorem ext_getD {a b : List Int} (h : a.length = b.length) (hg : ∀ i, i < a.length → a.getD i 0 = b.getD i 0) : a = b := by
  apply List.ext_getElem h
  intro i h1 h2
  have := hg i h1
  simpa [List.getD_eq_getElem?_getD, List.getElem?_eq_getElem h1, List.getElem?_eq_getElem h2] using this
theorem getD_ly (z : List Int) (j n : Nat) (v : Int) (i : Nat) (h : j + n ≤ z.length) : (ly z j n v).getD i 0 = if j ≤ i ∧ i < j + n then (un v n).getD (i - j) 0 else z.getD i 0 := by
  have hj : (z.take j).length = j := by simp; omega
  have hu := un_length v n
  unfold ly
  simp only [List.getD_eq_getElem?_getD]
  by_cases h1 : i < j
  · rw [List.getElem?_append_left (by omega), if_neg (by omega), List.getElem?_take, if_pos h1]
  · rw [List.getElem?_append_right (by omega), hj]
    by_cases h2 : i < j + n
    · rw [List.getElem?_append_left (by omega), if_pos ⟨by omega, h2⟩]
    · rw [List.getElem?_append_right (by omega), hu, if_neg (by omega), List.getElem?_drop]
      congr 2
      omega
theorem getD_splice (l s : List Int) (j i : Nat) (h : j + s.length ≤ l.length) : (splice l j s).getD i 0 = if j ≤ i ∧ i < j + s.length then s.getD (i - j) 0 else l.getD i 0 := by
  have hj : (l.take j).length = j := by simp; omega
  unfold splice
  simp only [List.getD_eq_getElem?_getD]
  by_cases h1 : i < j
  · rw [List.getElem?_append_left (by omega), if_neg (by omega), List.getElem?_take, if_pos h1]
  · rw [List.getElem?_append_right (by omega), hj]
    by_cases h2 : i < j + s.length
    · rw [List.getElem?_append_left (by omega), if_pos ⟨by omega, h2⟩]
    · rw [List.getElem?_append_right (by omega), if_neg (by omega), List.getElem?_drop]
      congr 2
      omega
theorem getD_seg (z : List Int) (j n k : Nat) (h : k < n) : ((z.drop j).take n).getD k 0 = z.getD (j + k) 0 := by
  simp [List.getD_eq_getElem?_getD, List.getElem?_take, List.getElem?_drop, h]
theorem le_digit : ∀ (l : List Int) (i : Nat), Byt l → i < l.length → le l / 256 ^ i % 256 = l.getD i 0
  | [], i, _, h => by simp at h
  | z :: l, 0, hb, _ => by
    have hz := hb.cons.1
    simp only [le, Int.pow_zero, Int.ediv_one]
    show (z + 256 * le l) % 256 = z
    omega
  | z :: l, i + 1, hb, h => by
    have hz := hb.cons.1
    have ih := le_digit l i hb.cons.2 (by simpa using h)
    have e : le (z :: l) / 256 ^ (i + 1) = le l / 256 ^ i := by
      rw [Int.pow_succ, Int.mul_comm, ← Int.ediv_ediv_of_nonneg (by decide)]
      congr 1
      show (z + 256 * le l) / 256 = le l
      omega
    rw [e, ih]
    rfl
theorem un_le_getD (l : List Int) (n i : Nat) (hb : Byt l) (hl : l.length = n) (hi : i < n) : (un (le l) n).getD i 0 = l.getD i 0 := by
  rw [un_getD _ _ _ hi, le_digit l i hb (by omega)]
/-- Where a field stands in a form. -/
def fa (kd : Int) (f : Nat) : Nat := (rAt kd (f : Int)).toNat
def fs (kd : Int) (x : Bool) (f : Nat) : Nat := (pSz kd (f : Int) x).toNat
theorem spans (kd : Int) (x : Bool) (hk : kd = 1 ∨ kd = 2) : (∀ f, f < 10 → ∀ g, g < 10 → 1 ≤ f → f < g → fs kd x g = 0 ∨ fa kd f + fs kd x f ≤ fa kd g) ∧ (∀ f, f < 10 → 1 ≤ f → fa kd f + fs kd x f ≤ (if kd = 1 then 18 else 16)) ∧
    (∀ i, i < (if kd = 1 then 18 else 16) → ∃ f, f < 10 ∧ 1 ≤ f ∧ fa kd f ≤ i ∧ i < fa kd f + fs kd x f) := by
  rcases hk with rfl | rfl <;> cases x <;> decide
theorem enP_succ (kd : Int) (p : Pm) (k : Nat) : enP kd p (k + 1) = ly (enP kd p k) (fa kd (k + 1)) (fs kd (p.xof != 0) (k + 1)) (p.nv ((k + 1 : Nat) : Int)) := rfl
theorem enP_fit (kd : Int) (p : Pm) (hk : kd = 1 ∨ kd = 2) (k : Nat) (h : k ≤ 8) : fa kd (k + 1) + fs kd (p.xof != 0) (k + 1) ≤ (enP kd p k).length := by
  obtain ⟨_, _, _, hl, _⟩ := pFits kd ((k + 1 : Nat) : Int) (p.xof != 0) hk (by omega) (by omega)
  rw [enP_length kd p hk k (by omega)]
  unfold fa fs
  omega
/-- Outside all fields there are noughts. -/
theorem enP_zero (kd : Int) (p : Pm) (hk : kd = 1 ∨ kd = 2) : ∀ (k i : Nat), k ≤ 9 → (∀ f, 1 ≤ f → f ≤ k → ¬ (fa kd f ≤ i ∧ i < fa kd f + fs kd (p.xof != 0) f)) → (enP kd p k).getD i 0 = 0
  | 0, i, _, _ => by
    simp only [enP, List.getD_eq_getElem?_getD, List.getElem?_replicate]
    split <;> rfl
  | k + 1, i, h, hn => by
    rw [enP_succ, getD_ly _ _ _ _ _ (enP_fit kd p hk k (by omega)), if_neg (hn (k + 1) (by omega) (Nat.le_refl _))]
    exact enP_zero kd p hk k i (by omega) (fun f h1 h2 => hn f h1 (by omega))
/-- In a field there is its number. -/
theorem enP_field (kd : Int) (p : Pm) (hk : kd = 1 ∨ kd = 2) : ∀ (k f i : Nat), k ≤ 9 → 1 ≤ f → f ≤ k → i < fs kd (p.xof != 0) f → (enP kd p k).getD (fa kd f + i) 0 = (un (p.nv (f : Int)) (fs kd (p.xof != 0) f)).getD i 0
  | 0, f, i, _, h1, h2, _ => by omega
  | k + 1, f, i, h, h1, h2, hi => by
    rw [enP_succ, getD_ly _ _ _ _ _ (enP_fit kd p hk k (by omega))]
    by_cases hf : f = k + 1
    · subst hf
      rw [if_pos ⟨by omega, by omega⟩, Nat.add_sub_cancel_left]
    · obtain ⟨hd, _, _⟩ := spans kd (p.xof != 0) hk
      have := hd f (by omega) (k + 1) (by omega) h1 (by omega)
      rw [if_neg (by omega)]
      exact enP_field kd p hk k f i (by omega) h1 (by omega) hi
theorem tr_zero (s : List Int) (k : Nat) (h1 : (tr s).length ≤ k) (h2 : k < s.length) : s.getD k 0 = 0 := by
  rw [tr_length] at h1
  have : ∀ n, k < n → tn s n ≤ k → s.getD k 0 = 0 := by
    intro n
    induction n with
    | zero => intro h; omega
    | succ n ih =>
      intro h hl
      unfold tn at hl
      split at hl
      · rename_i hz
        rcases Nat.lt_or_ge k n with h' | h'
        · exact ih h' hl
        · obtain rfl : k = n := by omega
          exact hz
      · omega
  exact this s.length h2 h1
theorem tn_agree (l s : List Int) : ∀ n, (∀ i, i < n → l.getD i 0 = s.getD i 0) → tn l n = tn s n
  | 0, _ => rfl
  | n + 1, h => by
    unfold tn
    rw [h n (by omega), tn_agree l s n (fun i hi => h i (by omega))]
theorem tn_pad (l : List Int) (m : Nat) : ∀ d, (∀ i, m ≤ i → i < m + d → l.getD i 0 = 0) → tn l (m + d) = tn l m
  | 0, _ => rfl
  | d + 1, h => by
    rw [show tn l (m + (d + 1)) = (if l.getD (m + d) 0 = 0 then tn l (m + d) else m + d + 1) from rfl, if_pos (h (m + d) (by omega) (by omega))]
    exact tn_pad l m d (fun i h1 h2 => h i h1 (by omega))
/-- Noughts at the end do not count. -/
theorem tr_pad (l s : List Int) (h : ∀ i, l.getD i 0 = s.getD i 0) (hl : s.length ≤ l.length) : tr l = tr s := by
  have e : tn l l.length = tn s s.length := by
    obtain ⟨d, hd⟩ : ∃ d, l.length = s.length + d := ⟨l.length - s.length, by omega⟩
    rw [hd, tn_pad l s.length d (fun i h1 _ => by rw [h i, List.getD_eq_getElem?_getD, List.getElem?_eq_none h1]; rfl), tn_agree l s s.length (fun i _ => h i)]
  apply ext_getD
  · rw [tr_length, tr_length, e]
  · intro i hi
    have hi2 : i < (tr s).length := by rw [tr_length] at hi ⊢; omega
    rw [take_take_tr l i hi, take_take_tr s i hi2, h i]
/-- The sizes of a kind. -/
theorem kind_nums (kd : Int) (hk : kd = 1 ∨ kd = 2) : (kd = 1 ∧ (mo kd).toNat = 64 ∧ (mo kd / 4).toNat = 16 ∧ (if kd = 1 then 18 else 16 : Nat) = 18) ∨ (kd = 2 ∧ (mo kd).toNat = 32 ∧ (mo kd / 4).toNat = 8 ∧ (if kd = 1 then 18 else 16 : Nat) = 16) := by
  rcases hk with rfl | rfl
  · exact .inl ⟨rfl, rfl, rfl, rfl⟩
  · exact .inr ⟨rfl, rfl, rfl, rfl⟩
theorem enL_getD (kd : Int) (p : Pm) (s t : List Int) (hk : kd = 1 ∨ kd = 2) (hs : s.length ≤ (mo kd / 4).toNat) (ht : t.length ≤ (mo kd / 4).toNat) (i : Nat) :
    (enL kd p s t).getD i 0 = if 3 * (mo kd / 4).toNat ≤ i ∧ i < 3 * (mo kd / 4).toNat + t.length then t.getD (i - 3 * (mo kd / 4).toNat) 0 else
      if 2 * (mo kd / 4).toNat ≤ i ∧ i < 2 * (mo kd / 4).toNat + s.length then s.getD (i - 2 * (mo kd / 4).toNat) 0 else (enP kd p 9).getD i 0 := by
  have h9 := enP_length kd p hk 9 (by omega)
  have hn := kind_nums kd hk
  unfold enL
  rw [getD_splice _ _ _ _ (by rw [length_splice _ _ _ (by omega)]; omega), getD_splice _ _ _ _ (by omega)]
theorem getD_past (l : List Int) (i : Nat) (h : l.length ≤ i) : l.getD i 0 = 0 := by
  rw [List.getD_eq_getElem?_getD, List.getElem?_eq_none h]; rfl
/-- The numbers have room in their fields. -/
theorem nv_fits {kd : Int} {p : Pm} (hp : p.Ok) {sl tl : Nat} (h : p.ck kd sl tl = 0) (f : Nat) (h1 : 1 ≤ f) (h9 : f ≤ 9) : 0 ≤ p.nv (f : Int) ∧ p.nv (f : Int) < 256 ^ fs kd (p.xof != 0) f := by
  have hm := may_of_ck h
  have h0 := (nv_bdE p hp hm (f : Int)).1
  refine ⟨h0, ?_⟩
  obtain ⟨o0, o1, x0, x1, l0, l1⟩ := hp
  have hf : f = 1 ∨ f = 2 ∨ f = 3 ∨ f = 4 ∨ f = 5 ∨ f = 6 ∨ f = 7 ∨ f = 8 ∨ f = 9 := by omega
  unfold Pm.ck at h
  obtain ⟨d0, d1, k0, k1, f0, f1, e0, e1, n0, n1, i0, i1⟩ := hm
  rcases ck_kind h with rfl | rfl
  · simp only [LW.ck, if_true] at h
    have hg := ckG_may h
    obtain ⟨_, _, _, _, _, _, _, _, _, _, _, _, _, g6, g7, _⟩ := hg
    cases hx : p.xof != 0 with
    | true =>
      have hx0 : ¬ p.xof = 0 := by simpa using hx
      simp only [hx0, if_false] at g6 g7
      rcases hf with rfl | rfl | rfl | rfl | rfl | rfl | rfl | rfl | rfl
      all_goals simp [Pm.nv, LW.nv, fs, pSz, rSz]
      all_goals omega
    | false =>
      have hx0 : p.xof = 0 := by simpa using hx
      simp only [hx0, if_true] at g6 g7
      rcases hf with rfl | rfl | rfl | rfl | rfl | rfl | rfl | rfl | rfl
      all_goals simp [Pm.nv, LW.nv, fs, pSz, rSz]
      all_goals omega
  · simp only [LW.ck, if_true, show ((2 : Int) = 1) = False by simp, if_false] at h
    have hg := ckG_may h
    obtain ⟨_, _, _, _, _, _, _, _, _, _, _, _, _, g6, g7, _⟩ := hg
    cases hx : p.xof != 0 with
    | true =>
      have hx0 : ¬ p.xof = 0 := by simpa using hx
      simp only [hx0, if_false] at g6 g7
      rcases hf with rfl | rfl | rfl | rfl | rfl | rfl | rfl | rfl | rfl
      all_goals simp [Pm.nv, LW.nv, fs, pSz, rSz]
      all_goals omega
    | false =>
      have hx0 : p.xof = 0 := by simpa using hx
      simp only [hx0, if_true] at g6 g7
      rcases hf with rfl | rfl | rfl | rfl | rfl | rfl | rfl | rfl | rfl
      all_goals simp [Pm.nv, LW.nv, fs, pSz, rSz]
      all_goals omega
/-- THERE AND BACK: the block of parameters says these numbers, in their own form. -/
theorem dec_enc {kd : Int} {p : Pm} (hp : p.Ok) {s t : List Int} (h : p.ck kd s.length t.length = 0) : dP kd (p.xof != 0) (enL kd p s t) = p := by
  have hk := ck_kind h
  have hsl := ck_salts h
  have hn := kind_nums kd hk
  obtain ⟨_, hbd, _⟩ := spans kd (p.xof != 0) hk
  have hL := enL_length kd p s t h
  apply nv_all
  intro j h1 h9
  obtain ⟨f, rfl⟩ := Int.eq_ofNat_of_zero_le (show (0 : Int) ≤ j by omega)
  rw [dP_nv kd _ _ _ h1 h9]
  have hf := nv_fits hp h f (by omega) (by omega)
  have hb := hbd f (by omega) (by omega)
  show le (((enL kd p s t).drop (fa kd f)).take (fs kd (p.xof != 0) f)) = _
  have hseg : ((enL kd p s t).drop (fa kd f)).take (fs kd (p.xof != 0) f) = un (p.nv (f : Int)) (fs kd (p.xof != 0) f) := by
    apply ext_getD
    · rw [un_length, sub_length _ _ _ (by omega)]
    · intro i hi
      rw [sub_length _ _ _ (by omega)] at hi
      rw [getD_seg _ _ _ _ hi, enL_getD kd p s t hk hsl.1 hsl.2, if_neg (by omega), if_neg (by omega)]
      exact enP_field kd p hk 9 f i (by omega) (by omega) (by omega) hi
  rw [hseg]
  exact le_un _ _ hf.1 hf.2
theorem sal_enc {kd : Int} {p : Pm} {s t : List Int} (h : p.ck kd s.length t.length = 0) : tr (saL kd (enL kd p s t)) = tr s ∧ tr (peL kd (enL kd p s t)) = tr t ∧ (tr (idl kd (enL kd p s t))).length = 0 := by
  have hk := ck_kind h
  have hsl := ck_salts h
  have hn := kind_nums kd hk
  obtain ⟨_, hbd, _⟩ := spans kd (p.xof != 0) hk
  have hL := enL_length kd p s t h
  have hz : ∀ i, (if kd = 1 then 18 else 16 : Nat) ≤ i → (enP kd p 9).getD i 0 = 0 := fun i hi => enP_zero kd p hk 9 i (by omega) (fun f h1 h2 hc => by have := hbd f (by omega) h1; omega)
  have ha : (saL kd (enL kd p s t)).length = (mo kd / 4).toNat := sub_length _ _ _ (by omega)
  have hb : (peL kd (enL kd p s t)).length = (mo kd / 4).toNat := sub_length _ _ _ (by omega)
  refine ⟨tr_pad _ _ (fun i => ?_) (by omega), tr_pad _ _ (fun i => ?_) (by omega), ?_⟩
  · rcases Nat.lt_or_ge i (mo kd / 4).toNat with hi | hi
    · unfold saL
      rw [getD_seg _ _ _ _ hi, enL_getD kd p s t hk hsl.1 hsl.2, if_neg (by omega)]
      by_cases h2 : i < s.length
      · rw [if_pos (by omega), Nat.add_sub_cancel_left]
      · rw [if_neg (by omega), getD_past s i (by omega)]
        exact hz _ (by omega)
    · rw [getD_past _ i (by omega), getD_past s i (by omega)]
  · rcases Nat.lt_or_ge i (mo kd / 4).toNat with hi | hi
    · unfold peL
      rw [getD_seg _ _ _ _ hi, enL_getD kd p s t hk hsl.1 hsl.2]
      by_cases h2 : i < t.length
      · rw [if_pos (by omega), Nat.add_sub_cancel_left]
      · rw [if_neg (by omega), if_neg (by omega), getD_past t i (by omega)]
        exact hz _ (by omega)
    · rw [getD_past _ i (by omega), getD_past t i (by omega)]
  · rcases hn with ⟨rfl, h64, h16, h18⟩ | ⟨rfl, _⟩
    · rw [tr_length, idl_len _ (by omega), tn_zero]
      intro i hi
      rw [idl_getD _ i hi, enL_getD 1 p s t hk hsl.1 hsl.2, if_neg (by omega), if_neg (by omega)]
      exact hz _ (by omega)
    · rfl
/-- BACK AND THERE: what a block says lays the same block. -/
theorem enc_dec {kd : Int} {x : Bool} {B : List Int} (hk : kd = 1 ∨ kd = 2) (hB : Byt B) (hl : B.length = (mo kd).toNat) (hi : (tr (idl kd B)).length = 0) (hx : ((dP kd x B).xof != 0) = x) :
    enL kd (dP kd x B) (tr (saL kd B)) (tr (peL kd B)) = B := by
  have hn := kind_nums kd hk
  obtain ⟨_, hbd, hcov⟩ := spans kd x hk
  have ha : (saL kd B).length = (mo kd / 4).toNat := sub_length _ _ _ (by omega)
  have hb : (peL kd B).length = (mo kd / 4).toNat := sub_length _ _ _ (by omega)
  have ha' := tr_le (saL kd B)
  have hb' := tr_le (peL kd B)
  have h9 := enP_length kd (dP kd x B) hk 9 (by omega)
  have hlen : (enL kd (dP kd x B) (tr (saL kd B)) (tr (peL kd B))).length = B.length := by
    unfold enL
    rw [length_splice _ _ _ (by rw [length_splice _ _ _ (by omega)]; omega), length_splice _ _ _ (by omega), h9, hl]
  have hP : ∀ i, i < (if kd = 1 then 18 else 16 : Nat) → (enP kd (dP kd x B) 9).getD i 0 = B.getD i 0 := fun i hi => by
    obtain ⟨f, hf, h1, h2, h3⟩ := hcov i hi
    obtain ⟨r, rfl⟩ : ∃ r, i = fa kd f + r := ⟨i - fa kd f, by omega⟩
    have hfb := hbd f hf h1
    have := enP_field kd (dP kd x B) hk 9 f r (by omega) h1 (by omega) (by rw [hx]; omega)
    rw [hx, dP_nv kd x B f (by omega) (by omega)] at this
    rw [this]
    show (un (le ((B.drop (fa kd f)).take (fs kd x f))) (fs kd x f)).getD r 0 = _
    rw [un_le_getD _ _ _ ((hB.drop _).take _) (sub_length _ _ _ (by omega)) (by omega), getD_seg _ _ _ _ (by omega)]
  have hZ : ∀ i, (if kd = 1 then 18 else 16 : Nat) ≤ i → (enP kd (dP kd x B) 9).getD i 0 = 0 := fun i hi => enP_zero kd (dP kd x B) hk 9 i (by omega) (fun f h1 h2 hc => by rw [hx] at hc; have := hbd f (by omega) h1; omega)
  apply ext_getD hlen
  intro i hi'
  rw [hlen, hl] at hi'
  rw [enL_getD kd _ _ _ hk (by omega) (by omega)]
  by_cases c3 : 3 * (mo kd / 4).toNat ≤ i
  · have e : B.getD i 0 = (peL kd B).getD (i - 3 * (mo kd / 4).toNat) 0 := by
      unfold peL
      rw [getD_seg _ _ _ _ (by omega)]
      congr 1; omega
    by_cases c4 : i < 3 * (mo kd / 4).toNat + (tr (peL kd B)).length
    · rw [if_pos ⟨c3, c4⟩, take_take_tr _ _ (by omega), e]
    · rw [if_neg (by omega), if_neg (by omega), hZ i (by omega), e]
      exact (tr_zero _ _ (by omega) (by omega)).symm
  · rw [if_neg (by omega)]
    by_cases c2 : 2 * (mo kd / 4).toNat ≤ i
    · have e : B.getD i 0 = (saL kd B).getD (i - 2 * (mo kd / 4).toNat) 0 := by
        unfold saL
        rw [getD_seg _ _ _ _ (by omega)]
        congr 1; omega
      by_cases c4 : i < 2 * (mo kd / 4).toNat + (tr (saL kd B)).length
      · rw [if_pos ⟨c2, c4⟩, take_take_tr _ _ (by omega), e]
      · rw [if_neg (by omega), hZ i (by omega), e]
        exact (tr_zero _ _ (by omega) (by omega)).symm
    · rw [if_neg (by omega)]
      by_cases c1 : i < (if kd = 1 then 18 else 16 : Nat)
      · exact hP i c1
      · rcases hn with ⟨rfl, h64, h16, h18⟩ | ⟨rfl, h32, h8, h16⟩
        · rw [hZ i (by omega)]
          rw [tr_length, idl_len _ (by omega), tn_zero] at hi
          have := hi (i - 18) (by omega)
          rw [idl_getD _ _ (by omega), show 18 + (i - 18) = i by omega] at this
          exact this.symm
        · omega
end LW
end Go.Proofs.YteakoajkmcbilabDoor
namespace Go.Proofs.YteakoajkmcbilabDoor
open Go.RowKit
set_option linter.unusedVariables false
set_option linter.unusedSimpArgs false
namespace LW
open Words
attribute [local go_sem ↓] Go.wp_at_zero Go.wp_at_succ
theorem alive0 : (enL 1 (⟨64, 0, 1, 1, 0, 0, 0, 0, 0⟩ : Pm) [] []).length = 64 ∧ (enL 1 (⟨64, 0, 1, 1, 0, 0, 0, 0, 0⟩ : Pm) [] []).getD 0 0 = 64 ∧ (enL 1 (⟨64, 0, 1, 1, 0, 0, 0, 0, 0⟩ : Pm) [] []).getD 2 0 = 1 ∧ (enL 1 (⟨64, 0, 1, 1, 0, 0, 0, 0, 0⟩ : Pm) [] []).getD 3 0 = 1 ∧ Pm.ck 1 (⟨64, 0, 1, 1, 0, 0, 0, 0, 0⟩ : Pm) 0 0 = 0 := by
  refine ⟨by decide +kernel, by decide +kernel, by decide +kernel, by decide +kernel, by decide +kernel⟩
set_option maxRecDepth 100000 in
set_option maxHeartbeats 4000000 in
theorem alive (w : World) : Calls Tryd.prog 12 #[] w fun e w' => e = .returned (.bool true) ∧ Below w.heap.size w w' := by
  obtain ⟨h64, g0, g2, g3, hck⟩ := alive0
  have hp : ((⟨64, 0, 1, 1, 0, 0, 0, 0, 0⟩ : Pm)).Ok := ⟨by decide, by decide, by decide, by decide, by decide, by decide⟩
  have H23 : Hid (∀ W, Calls Tryd.prog 14 #[.int .i64 1, .agg #[.int .i64 64, .int .i64 0, .int .i64 1, .int .i64 1, .int .u32 0, .int .u64 0, .int .u32 0, .int .i64 0, .int .i64 0, (.slice none 0 0), (.slice none 0 0)]] W fun e w' => ∃ g, e = .returned (.tuple #[.slice (some ⟨g, 0, none⟩) 64 64, .int .i64 0]) ∧ w'.cell? ⟨g, 0, none⟩ = some (.int .u8 64) ∧ w'.cell? ⟨g, 2, none⟩ = some (.int .u8 1) ∧ w'.cell? ⟨g, 3, none⟩ = some (.int .u8 1) ∧ Below W.heap.size W w') := fun W => by
    refine (encOk 1 (⟨64, 0, 1, 1, 0, 0, 0, 0, 0⟩ : Pm) hp none none 0 0 [] [] W hck (nil_Pa W).toPb (nil_Pa W).toPb).mono ?_
    rintro e w' ⟨g, rfl, hg, hh, hb⟩
    rw [h64]
    refine ⟨g, rfl, ?_, ?_, ?_, hb⟩
    · exact blk_cell hh (by rw [List.getElem?_toArray, vs_get _ _ (by omega), g0])
    · exact blk_cell hh (by rw [List.getElem?_toArray, vs_get _ _ (by omega), g2])
    · exact blk_cell hh (by rw [List.getElem?_toArray, vs_get _ _ (by omega), g3])
  clear h64 g0 g2 g3 hck
  go_enter Tryd.func12, Tryd.ntmps12
  go_wp2_with fail
  refine (H23.out _).mono ?_
  rintro e w1 ⟨g, rfl, c0, c2, c3, hb⟩
  have HB := TW.hide hb
  clear hb
  go_wp2
  go_ret
  exact ⟨rfl, HB.out⟩
end LW
end Go.Proofs.YteakoajkmcbilabDoor
