/-
  What a block says: the numbers, the bytes that say nothing, salt and personal.
-/
import Derived.Test.YtomdplcmbcjkfaaUnif
import Derived.Test.YtomdplcmbcjkfaaGets
import Derived.Test.YtomdplcmbcjkfaaSpans
namespace Go.Proofs.Ytomdplcmbcjkfaa
open Go.RowKit
set_option linter.unusedVariables false
set_option linter.unusedSimpArgs false
namespace LW
open Words
theorem Row.sub {w : World} {b off : Nat} {zs : List Int} (h : Row w (some ⟨b, off, none⟩) zs) (j n : Nat) (hl : j + n ≤ zs.length) : Row w (some ⟨b, off + j, none⟩) ((zs.drop j).take n) := by
  rcases h with h | ⟨b', off', e, hc⟩
  · subst h
    have : n = 0 := by simp at hl; omega
    subst this
    exact .inl rfl
  · cases e
    refine .inr ⟨b, off + j, rfl, fun i hi => ?_⟩
    have hi' : i < n := by simp at hi; omega
    rw [show off + j + i = off + (j + i) by omega, hc (j + i) (by omega)]
    simp [List.getD_eq_getElem?_getD, List.getElem?_drop, hi']
theorem sub_length (zs : List Int) (j n : Nat) (h : j + n ≤ zs.length) : ((zs.drop j).take n).length = n := by simp; omega
/-- The number of a field of a block, in one of the forms. -/
def fV (kd : Int) (x : Bool) (zs : List Int) (f : Int) : Int := le ((zs.drop (rAt kd f).toNat).take (pSz kd f x).toNat)
/-- All nine. -/
def dP (kd : Int) (x : Bool) (zs : List Int) : Pm := ⟨fV kd x zs 1, fV kd x zs 2, fV kd x zs 3, fV kd x zs 4, fV kd x zs 5, fV kd x zs 6, fV kd x zs 7, fV kd x zs 8, fV kd x zs 9⟩
theorem pFits (kd f : Int) (x : Bool) (hk : kd = 1 ∨ kd = 2) (h1 : 1 ≤ f) (h9 : f ≤ 9) : rAt kd f = ((rAt kd f).toNat : Int) ∧ pSz kd f x = ((pSz kd f x).toNat : Int) ∧ (pSz kd f x).toNat ≤ 8 ∧ (((rAt kd f).toNat + (pSz kd f x).toNat : Nat) : Int) ≤ mo kd ∧
    (f ≠ 6 → (pSz kd f x).toNat ≤ 4) ∧ (f ≠ 6 → f ≠ 5 → f ≠ 7 → (pSz kd f x).toNat ≤ 1) ∧ ((pSz kd f x).toNat = 0 → f = 7 ∧ x = false) := by
  have hf : f = 1 ∨ f = 2 ∨ f = 3 ∨ f = 4 ∨ f = 5 ∨ f = 6 ∨ f = 7 ∨ f = 8 ∨ f = 9 := by omega
  rcases hk with rfl | rfl <;> rcases hf with rfl | rfl | rfl | rfl | rfl | rfl | rfl | rfl | rfl <;> cases x <;> decide
theorem fV_bd (kd f : Int) (x : Bool) (zs : List Int) (hz : Byt zs) (hk : kd = 1 ∨ kd = 2) (h1 : 1 ≤ f) (h9 : f ≤ 9) :
    0 ≤ fV kd x zs f ∧ fV kd x zs f < 18446744073709551616 ∧ (f ≠ 6 → fV kd x zs f < 4294967296) ∧ (f ≠ 6 → f ≠ 5 → f ≠ 7 → fV kd x zs f ≤ 255) := by
  obtain ⟨_, _, h8, _, h4, h5, _⟩ := pFits kd f x hk h1 h9
  have hb := le_bd (l := (zs.drop (rAt kd f).toNat).take (pSz kd f x).toNat) ((hz.drop _).take _)
  have hl : ((zs.drop (rAt kd f).toNat).take (pSz kd f x).toNat).length ≤ (pSz kd f x).toNat := by simp; omega
  unfold fV
  generalize (zs.drop (rAt kd f).toNat).take (pSz kd f x).toNat = L at *
  generalize (pSz kd f x).toNat = n at *
  have mono : ∀ m, n ≤ m → (256 : Int) ^ L.length ≤ 256 ^ m := fun m hm => by
    have := Nat.pow_le_pow_right (n := 256) (by decide) (show L.length ≤ m by omega)
    have h := Int.ofNat_le.2 this
    rw [Int.natCast_pow, Int.natCast_pow] at h
    exact h
  refine ⟨hb.1, ?_, fun h => ?_, fun a b c => ?_⟩
  · have := mono 8 h8
    have e : (256 : Int) ^ 8 = 18446744073709551616 := by decide
    omega
  · have := mono 4 (h4 h)
    have e : (256 : Int) ^ 4 = 4294967296 := by decide
    omega
  · have := mono 1 (h5 a b c)
    have e : (256 : Int) ^ 1 = 256 := by decide
    omega
theorem dP_Ok (kd : Int) (x : Bool) (zs : List Int) (hz : Byt zs) (hk : kd = 1 ∨ kd = 2) : (dP kd x zs).Ok := by
  have h5 := fV_bd kd 5 x zs hz hk (by omega) (by omega)
  have h6 := fV_bd kd 6 x zs hz hk (by omega) (by omega)
  have h7 := fV_bd kd 7 x zs hz hk (by omega) (by omega)
  exact ⟨h6.1, h6.2.1, h7.1, h7.2.2.1 (by decide), h5.1, h5.2.2.1 (by decide)⟩
/-- The first of the nine numbers, noughts behind them. -/
def upP (p : Pm) (k : Nat) : Pm := ⟨if 1 < k then p.d else 0, if 2 < k then p.k else 0, if 3 < k then p.f else 0, if 4 < k then p.dp else 0, if 5 < k then p.lf else 0, if 6 < k then p.off else 0, if 7 < k then p.xof else 0, if 8 < k then p.nd else 0, if 9 < k then p.inn else 0⟩
theorem upP_set (p : Pm) (k : Nat) (S T : Value) (h1 : 1 ≤ k) (h9 : k ≤ 9) : (pcP (upP p k) S T).setIfInBounds ((k : Int) - 1).toNat (nk k (p.nv k)) = pcP (upP p (k + 1)) S T := by
  have hf : k = 1 ∨ k = 2 ∨ k = 3 ∨ k = 4 ∨ k = 5 ∨ k = 6 ∨ k = 7 ∨ k = 8 ∨ k = 9 := by omega
  rcases hf with rfl | rfl | rfl | rfl | rfl | rfl | rfl | rfl | rfl <;> rfl
theorem upP_one (p : Pm) : upP p 1 = Pm.zero := rfl
theorem upP_ten (p : Pm) : upP p 10 = p := rfl
theorem dP_nv (kd : Int) (x : Bool) (zs : List Int) (f : Int) (h1 : 1 ≤ f) (h9 : f ≤ 9) : (dP kd x zs).nv f = fV kd x zs f := by
  have hf : f = 1 ∨ f = 2 ∨ f = 3 ∨ f = 4 ∨ f = 5 ∨ f = 6 ∨ f = 7 ∨ f = 8 ∨ f = 9 := by omega
  rcases hf with rfl | rfl | rfl | rfl | rfl | rfl | rfl | rfl | rfl <;> rfl
set_option maxHeartbeats 2000000 in
theorem spanLoad0 (a : Option Addr) (len cap j : Nat) (w : World) :
    Calls Try.prog 29 #[.agg #[.int .i64 j, .int .i64 0], .slice a len cap] w fun e w' => e = .returned (.int .u64 0) ∧ Below w.heap.size w w' := by
  have hb := (Below.refl w.heap.size w).alloc (Nat.le_refl _) (.cells #[.int .i64 j, .int .i64 0] 52)
  go_enter Try.func29, Try.ntmps29
  go_wp2
  generalize w.alloc (.cells #[.int .i64 j, .int .i64 0] 52) = W at hb ⊢
  have HB := TW.hide hb
  clear hb
  go_loop [5, 9] (fun v i => i = .int .i64 0 ∧ v = .int .u64 0) (fun _ i => 0)
  case atStart => exact ⟨rfl, rfl⟩
  case round =>
    obtain ⟨rfl, rfl⟩ := hrel
    go_wp2
    go_ret
    exact ⟨rfl, HB.out⟩
theorem fieldLoad (kd f : Int) (x : Bool) (a : Option Addr) (cap : Nat) (zs : List Int) (w : World) (hz : Byt zs) (hr : Row w a zs) (hm : zs.length ≤ maxLen) (hk : kd = 1 ∨ kd = 2) (hlen : (zs.length : Int) = mo kd) (h1 : 1 ≤ f) (h9 : f ≤ 9) :
    Calls Try.prog 29 #[.agg #[.int .i64 (rAt kd f), .int .i64 (pSz kd f x)], .slice a zs.length cap] w fun e w' => e = .returned (.int .u64 (fV kd x zs f)) ∧ Below w.heap.size w w' := by
  obtain ⟨e1, e2, h8, hl, _, _, h0⟩ := pFits kd f x hk h1 h9
  unfold fV
  rw [e1, e2]
  simp only [Int.toNat_natCast]
  generalize (rAt kd f).toNat = j at *
  generalize (pSz kd f x).toNat = n at *
  by_cases hn : n = 0
  · subst hn
    exact spanLoad0 a zs.length cap j w
  · exact spanLoad a cap zs j n w hz hr hm (by omega) h8 (by omega)
/-- The bytes of a block that say nothing. -/
def idl (kd : Int) (zs : List Int) : List Int := if kd = 1 then (zs.drop 18).take 14 else []
theorem tn_zero (l : List Int) : ∀ n, tn l n = 0 ↔ ∀ i, i < n → l.getD i 0 = 0
  | 0 => by simp [tn]
  | n + 1 => by
    unfold tn
    split
    · rename_i h
      rw [tn_zero l n]
      constructor
      · intro h' i hi
        rcases Nat.lt_or_ge i n with h2 | h2
        · exact h' i h2
        · obtain rfl : i = n := by omega
          exact h
      · exact fun h' i hi => h' i (by omega)
    · rename_i h
      constructor
      · intro h'; omega
      · intro h'; exact absurd (h' n (by omega)) h
/-- Salt and personal of a block. -/
def saL (kd : Int) (zs : List Int) : List Int := (zs.drop (2 * (mo kd / 4).toNat)).take (mo kd / 4).toNat
def peL (kd : Int) (zs : List Int) : List Int := (zs.drop (3 * (mo kd / 4).toNat)).take (mo kd / 4).toNat
end LW
end Go.Proofs.Ytomdplcmbcjkfaa
