/-
  Plain facts on turned words (no Go in sight): what the two ways of turning a word of 32 or 64 bits are worth, that turns add up, and that they go through exclusive or.
-/
import Derived.Laws.BitsAllLaws
import Derived.Laws.Entries
import Derived.WalkKit
namespace Go.Proofs.YtkgemkfajkcgcaaDoor.Turn
open Go

/-- 'a' (32 bits) turned right by 'n'. -/
def T32 (a n : Int) : Int := (((BitVec.ofInt 32 a).rotateRight (n % 32).toNat).toNat : Int)
/-- 'a' (64 bits) turned right by 'n'. -/
def T64 (a n : Int) : Int := (((BitVec.ofInt 64 a).rotateRight (n % 64).toNat).toNat : Int)

theorem T32_bd (a n : Int) : 0 ≤ T32 a n ∧ T32 a n < 4294967296 := by
  unfold T32
  have h := ((BitVec.ofInt 32 a).rotateRight (n % 32).toNat).isLt
  exact ⟨by omega, by omega⟩
theorem T64_bd (a n : Int) : 0 ≤ T64 a n ∧ T64 a n < 18446744073709551616 := by
  unfold T64
  have h := ((BitVec.ofInt 64 a).rotateRight (n % 64).toNat).isLt
  exact ⟨by omega, by omega⟩

theorem get32 (x : BitVec 32) (r i : Nat) (hi : i < 32) : (x.rotateRight r).getLsbD i = x.getLsbD ((r + i) % 32) := by
  rw [BitVec.getLsbD_rotateRight]
  by_cases h : i < 32 - r % 32
  · simp only [h, decide_true, cond_true]
    rw [show r % 32 + i = (r + i) % 32 by omega]
  · simp only [h, decide_false, cond_false, hi, decide_true, Bool.true_and]
    rw [show i - (32 - r % 32) = (r + i) % 32 by omega]
theorem get64 (x : BitVec 64) (r i : Nat) (hi : i < 64) : (x.rotateRight r).getLsbD i = x.getLsbD ((r + i) % 64) := by
  rw [BitVec.getLsbD_rotateRight]
  by_cases h : i < 64 - r % 64
  · simp only [h, decide_true, cond_true]
    rw [show r % 64 + i = (r + i) % 64 by omega]
  · simp only [h, decide_false, cond_false, hi, decide_true, Bool.true_and]
    rw [show i - (64 - r % 64) = (r + i) % 64 by omega]

theorem comp32 (x : BitVec 32) (a b c : Nat) (h : (a + b) % 32 = c % 32) : (x.rotateRight a).rotateRight b = x.rotateRight c := by
  apply BitVec.eq_of_getLsbD_eq
  intro i hi
  rw [get32 _ _ _ hi, get32 _ _ _ (Nat.mod_lt _ (by decide)), get32 _ _ _ hi]
  rw [show (a + (b + i) % 32) % 32 = (c + i) % 32 by omega]
theorem comp64 (x : BitVec 64) (a b c : Nat) (h : (a + b) % 64 = c % 64) : (x.rotateRight a).rotateRight b = x.rotateRight c := by
  apply BitVec.eq_of_getLsbD_eq
  intro i hi
  rw [get64 _ _ _ hi, get64 _ _ _ (Nat.mod_lt _ (by decide)), get64 _ _ _ hi]
  rw [show (a + (b + i) % 64) % 64 = (c + i) % 64 by omega]

theorem back32 (x : BitVec 32) : BitVec.ofInt 32 (x.toNat : Int) = x := by simp
theorem back64 (x : BitVec 64) : BitVec.ofInt 64 (x.toNat : Int) = x := by simp

/-- Two turns are one, by the sum. -/
theorem T32_add (a n m k : Int) (h : (n + m) % 32 = k % 32) : T32 (T32 a n) m = T32 a k := by
  unfold T32
  rw [back32, comp32 _ _ _ (k % 32).toNat (by omega)]
theorem T64_add (a n m k : Int) (h : (n + m) % 64 = k % 64) : T64 (T64 a n) m = T64 a k := by
  unfold T64
  rw [back64, comp64 _ _ _ (k % 64).toNat (by omega)]

theorem T32_zero (a n : Int) (h0 : 0 ≤ a) (h1 : a < 4294967296) (h : n % 32 = 0) : T32 a n = a := by
  unfold T32
  rw [h]
  have : (BitVec.ofInt 32 a).rotateRight (0 : Int).toNat = BitVec.ofInt 32 a := by
    apply BitVec.eq_of_getLsbD_eq
    intro i hi
    rw [get32 _ _ _ hi, show ((0 : Int).toNat + i) % 32 = i by omega]
  rw [this, BitVec.toNat_ofInt]
  omega
theorem T64_zero (a n : Int) (h0 : 0 ≤ a) (h1 : a < 18446744073709551616) (h : n % 64 = 0) : T64 a n = a := by
  unfold T64
  rw [h]
  have : (BitVec.ofInt 64 a).rotateRight (0 : Int).toNat = BitVec.ofInt 64 a := by
    apply BitVec.eq_of_getLsbD_eq
    intro i hi
    rw [get64 _ _ _ hi, show ((0 : Int).toNat + i) % 64 = i by omega]
  rw [this, BitVec.toNat_ofInt]
  omega

theorem shr_nat (A k : Nat) : ((A : Int) / 2 ^ k) = ((A >>> k : Nat) : Int) := by
  rw [Nat.shiftRight_eq_div_pow]; simp
theorem shl_nat32 (A k : Nat) : ((A : Int) * 2 ^ k % 4294967296) = ((A <<< k % 2 ^ 32 : Nat) : Int) := by
  rw [Nat.shiftLeft_eq]; simp
theorem shl_nat64 (A k : Nat) : ((A : Int) * 2 ^ k % 18446744073709551616) = ((A <<< k % 2 ^ 64 : Nat) : Int) := by
  rw [Nat.shiftLeft_eq]; simp

/-- The document's way of turning: 'w>>k | w<<(32-k)'. -/
theorem T32_ref (a n k : Int) (h0 : 0 ≤ a) (h1 : a < 4294967296) (hk : n % 32 = k) (hp : 0 < k) :
    bits .or .u32 (a / 2 ^ k.toNat) (a * 2 ^ (32 - k).toNat % 4294967296) = T32 a n := by
  obtain ⟨A, rfl⟩ := Int.eq_ofNat_of_zero_le h0
  have hA : (BitVec.ofInt 32 (A : Int)).toNat = A := ofInt_u32 A (by omega)
  unfold T32
  rw [BitVec.toNat_rotateRight, hA, hk]
  rw [shr_nat, shl_nat32, u32_or_nat _ _ (by have := Nat.shiftRight_le A k.toNat; omega) (Nat.mod_lt _ (by decide))]
  rw [show k.toNat % 32 = k.toNat by omega, show (32 - k).toNat = 32 - k.toNat by omega]
theorem T64_ref (a n k : Int) (h0 : 0 ≤ a) (h1 : a < 18446744073709551616) (hk : n % 64 = k) (hp : 0 < k) :
    bits .or .u64 (a / 2 ^ k.toNat) (IntKind.u64.wrap (a * 2 ^ (64 - k).toNat)) = T64 a n := by
  obtain ⟨A, rfl⟩ := Int.eq_ofNat_of_zero_le h0
  have hA : (BitVec.ofInt 64 (A : Int)).toNat = A := ofInt_u64 A (by omega)
  unfold T64
  rw [BitVec.toNat_rotateRight, hA, hk, IntKind.wrap_u64]
  rw [shr_nat, shl_nat64, u64_or_nat _ _ (by have := Nat.shiftRight_le A k.toNat; omega) (Nat.mod_lt _ (by decide))]
  rw [show k.toNat % 64 = k.toNat by omega, show (64 - k).toNat = 64 - k.toNat by omega]

/-- The library's way of turning left by 's': 'x<<s | x>>(32-s)'. -/
theorem T32_lib (a n s : Int) (h0 : 0 ≤ a) (h1 : a < 4294967296) (hs : (-n) % 32 = s) :
    bits .or .u32 (a * 2 ^ s.toNat % 4294967296) (a / 2 ^ (32 - s).toNat) = T32 a n := by
  obtain ⟨A, rfl⟩ := Int.eq_ofNat_of_zero_le h0
  have hA : (BitVec.ofInt 32 (A : Int)).toNat = A := ofInt_u32 A (by omega)
  rw [shr_nat, shl_nat32, u32_or_nat _ _ (Nat.mod_lt _ (by decide)) (by have := Nat.shiftRight_le A (32 - s).toNat; omega), Nat.or_comm]
  by_cases hz : s = 0
  · subst hz
    rw [T32_zero _ _ (by omega) (by omega) (by omega)]
    have e1 : A >>> (32 - (0 : Int)).toNat = 0 := by rw [Nat.shiftRight_eq_div_pow]; exact Nat.div_eq_of_lt (by simpa using by omega)
    rw [e1]
    simp
    omega
  · unfold T32
    rw [BitVec.toNat_rotateRight, hA]
    rw [show (n % 32).toNat % 32 = (32 - s).toNat by omega, show 32 - (32 - s).toNat = s.toNat by omega]
theorem T64_lib (a n s : Int) (h0 : 0 ≤ a) (h1 : a < 18446744073709551616) (hs : (-n) % 64 = s) :
    bits .or .u64 (IntKind.u64.wrap (a * 2 ^ s.toNat)) (a / 2 ^ (64 - s).toNat) = T64 a n := by
  obtain ⟨A, rfl⟩ := Int.eq_ofNat_of_zero_le h0
  have hA : (BitVec.ofInt 64 (A : Int)).toNat = A := ofInt_u64 A (by omega)
  rw [IntKind.wrap_u64, shr_nat, shl_nat64, u64_or_nat _ _ (Nat.mod_lt _ (by decide)) (by have := Nat.shiftRight_le A (64 - s).toNat; omega), Nat.or_comm]
  by_cases hz : s = 0
  · subst hz
    rw [T64_zero _ _ (by omega) (by omega) (by omega)]
    have e1 : A >>> (64 - (0 : Int)).toNat = 0 := by rw [Nat.shiftRight_eq_div_pow]; exact Nat.div_eq_of_lt (by simpa using by omega)
    rw [e1]
    simp
    omega
  · unfold T64
    rw [BitVec.toNat_rotateRight, hA]
    rw [show (n % 64).toNat % 64 = (64 - s).toNat by omega, show 64 - (64 - s).toNat = s.toNat by omega]

theorem and31 (n : Int) : bits .and .i64 n 31 = n % 32 := by
  show IntKind.i64.wrap ((BitVec.ofInt 64 n &&& BitVec.ofInt 64 31).toNat : Int) = _
  rw [BitVec.toNat_and, show (BitVec.ofInt 64 31).toNat = 31 from rfl, nat_mask5, BitVec.toNat_ofInt, IntKind.wrap_i64]
  omega
theorem and63 (n : Int) : bits .and .i64 n 63 = n % 64 := by
  show IntKind.i64.wrap ((BitVec.ofInt 64 n &&& BitVec.ofInt 64 63).toNat : Int) = _
  rw [BitVec.toNat_and, show (BitVec.ofInt 64 63).toNat = 63 from rfl, nat_mask6, BitVec.toNat_ofInt, IntKind.wrap_i64]
  omega
theorem and31u (n : Int) : bits .and .u64 (IntKind.u64.wrap n) 31 = n % 32 := by
  show IntKind.u64.wrap ((BitVec.ofInt 64 (IntKind.u64.wrap n) &&& BitVec.ofInt 64 31).toNat : Int) = _
  rw [BitVec.toNat_and, show (BitVec.ofInt 64 31).toNat = 31 from rfl, nat_mask5, BitVec.toNat_ofInt, IntKind.wrap_u64, IntKind.wrap_u64]
  omega
theorem and63u (n : Int) : bits .and .u64 (IntKind.u64.wrap n) 63 = n % 64 := by
  show IntKind.u64.wrap ((BitVec.ofInt 64 (IntKind.u64.wrap n) &&& BitVec.ofInt 64 63).toNat : Int) = _
  rw [BitVec.toNat_and, show (BitVec.ofInt 64 63).toNat = 63 from rfl, nat_mask6, BitVec.toNat_ofInt, IntKind.wrap_u64, IntKind.wrap_u64]
  omega

theorem rxor32 (x y : BitVec 32) (r : Nat) : (x ^^^ y).rotateRight r = x.rotateRight r ^^^ y.rotateRight r := by
  apply BitVec.eq_of_getLsbD_eq
  intro i hi
  rw [BitVec.getLsbD_xor, get32 _ _ _ hi, get32 _ _ _ hi, get32 _ _ _ hi, BitVec.getLsbD_xor]
theorem rxor64 (x y : BitVec 64) (r : Nat) : (x ^^^ y).rotateRight r = x.rotateRight r ^^^ y.rotateRight r := by
  apply BitVec.eq_of_getLsbD_eq
  intro i hi
  rw [BitVec.getLsbD_xor, get64 _ _ _ hi, get64 _ _ _ hi, get64 _ _ _ hi, BitVec.getLsbD_xor]
theorem xor32 (a b : Int) : bits .xor .u32 a b = ((BitVec.ofInt 32 a ^^^ BitVec.ofInt 32 b).toNat : Int) := by
  show IntKind.u32.wrap ((BitVec.ofInt 32 a ^^^ BitVec.ofInt 32 b).toNat : Int) = _
  rw [IntKind.wrap_u32']
  have := (BitVec.ofInt 32 a ^^^ BitVec.ofInt 32 b).isLt
  omega
theorem xor64 (a b : Int) : bits .xor .u64 a b = ((BitVec.ofInt 64 a ^^^ BitVec.ofInt 64 b).toNat : Int) := by
  show IntKind.u64.wrap ((BitVec.ofInt 64 a ^^^ BitVec.ofInt 64 b).toNat : Int) = _
  rw [IntKind.wrap_u64]
  have := (BitVec.ofInt 64 a ^^^ BitVec.ofInt 64 b).isLt
  omega
theorem xor32_bd (a b : Int) : 0 ≤ bits .xor .u32 a b ∧ bits .xor .u32 a b < 4294967296 := by
  rw [xor32]
  have := (BitVec.ofInt 32 a ^^^ BitVec.ofInt 32 b).isLt
  exact ⟨by omega, by omega⟩
theorem xor64_bd (a b : Int) : 0 ≤ bits .xor .u64 a b ∧ bits .xor .u64 a b < 18446744073709551616 := by
  rw [xor64]
  have := (BitVec.ofInt 64 a ^^^ BitVec.ofInt 64 b).isLt
  exact ⟨by omega, by omega⟩
/-- A turn goes through exclusive or. -/
theorem T32_xor (a b n : Int) : T32 (bits .xor .u32 a b) n = bits .xor .u32 (T32 a n) (T32 b n) := by
  rw [xor32, xor32]
  unfold T32
  rw [back32, back32, back32, rxor32]
theorem T64_xor (a b n : Int) : T64 (bits .xor .u64 a b) n = bits .xor .u64 (T64 a n) (T64 b n) := by
  rw [xor64, xor64]
  unfold T64
  rw [back64, back64, back64, rxor64]
theorem T32_one : T32 1 1 = 2147483648 := by decide +kernel
theorem T64_three : T64 3 1 = 9223372036854775809 := by decide +kernel
theorem T64_one : T64 1 1 = 9223372036854775808 := by decide +kernel
end Go.Proofs.YtkgemkfajkcgcaaDoor.Turn
