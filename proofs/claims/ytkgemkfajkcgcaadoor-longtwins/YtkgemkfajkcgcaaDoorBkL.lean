/-
  Blocks as plain mathematics.
-/
import Derived.Test.YtkgemkfajkcgcaaDoorRPrm
import Derived.Test.YtkgemkfajkcgcaaDoorStore
import Derived.Test.YtkgemkfajkcgcaaDoorLoad
namespace Go.Proofs.YtkgemkfajkcgcaaDoor
open Go.RowKit
set_option linter.unusedVariables false
set_option linter.unusedSimpArgs false
set_option maxRecDepth 100000
namespace LW
open Turn
open Words
/-- A list by its places. -/
def mkL (n : Nat) (f : Nat → Int) : List Int := (List.range n).map f
theorem mkL_length (n : Nat) (f : Nat → Int) : (mkL n f).length = n := by simp [mkL]
theorem mkL_getD {n : Nat} (f : Nat → Int) {i : Nat} (h : i < n) : (mkL n f).getD i 0 = f i := by
  simp [mkL, List.getD_eq_getElem?_getD, h]
theorem mkL_congr {n : Nat} {f g : Nat → Int} (h : ∀ i, i < n → f i = g i) : mkL n f = mkL n g := by
  unfold mkL
  apply List.map_congr_left
  intro i hi
  exact h i (by simpa using hi)
theorem mkL_ext {n : Nat} {l m : List Int} (hl : l.length = n) (hm : m.length = n) (h : ∀ i, i < n → l.getD i 0 = m.getD i 0) : l = m := by
  apply List.ext_getElem (by omega)
  intro i h1 h2
  have := h i (by omega)
  simpa [List.getD_eq_getElem?_getD, List.getElem?_eq_getElem h1, List.getElem?_eq_getElem h2] using this
theorem mkL_self {n : Nat} {l : List Int} (h : l.length = n) : mkL n (fun i => l.getD i 0) = l :=
  mkL_ext (mkL_length _ _) h fun i hi => mkL_getD _ hi
theorem mkL_Ws {n : Nat} {f : Nat → Int} (h : ∀ i, i < n → W (f i)) : Ws (mkL n f) := fun x hx => by
  obtain ⟨i, hi, rfl⟩ := List.mem_map.1 hx
  exact h i (by simpa using hi)
theorem mkL_set {n : Nat} (f g : Nat → Int) {k : Nat} (h : k < n) : (mkL n (fun i => if i < k then f i else g i)).set k (f k) = mkL n (fun i => if i < k + 1 then f i else g i) := by
  refine mkL_ext (n := n) (by rw [List.length_set, mkL_length]) (mkL_length _ _) fun i hi => ?_
  rw [mkL_getD _ hi]
  by_cases e : i = k
  · subst e
    rw [getD_set_same _ _ _ (by rw [mkL_length]; exact hi), if_pos (by omega)]
  · rw [getD_set_other _ _ _ _ (by omega), mkL_getD _ hi]
    by_cases e2 : i < k
    · rw [if_pos e2, if_pos (by omega)]
    · rw [if_neg e2, if_neg (by omega)]
theorem mkL_lo {n : Nat} (f g : Nat → Int) : mkL n (fun i => if i < 0 then f i else g i) = mkL n g := mkL_congr fun i _ => if_neg (by omega)
theorem mkL_hi {n : Nat} (f g : Nat → Int) : mkL n (fun i => if i < n then f i else g i) = mkL n f := mkL_congr fun i hi => if_pos hi
theorem mkL_at {n : Nat} (f g : Nat → Int) {k : Nat} (h : k < n) : (mkL n (fun i => if i < k then f i else g i)).getD k 0 = g k := by
  rw [mkL_getD _ h, if_neg (by omega)]
/-- The words of a list of bytes. -/
def wdL (zs : List Int) : List Int := mkL 128 (fun i => le ((zs.drop (8 * i)).take 8))
/-- Two blocks laid over one another. -/
def ovL (a b : List Int) : List Int := mkL 128 (fun i => xo (a.getD i 0) (b.getD i 0))
/-- The bytes of the first words. -/
def byT (z : List Int) : Nat → List Int
  | 0 => []
  | k + 1 => byT z k ++ un (z.getD k 0) 8
def byL (z : List Int) : List Int := byT z 128
/-- The places of eight pairs. -/
def prA (a b : Nat) : List Int := mkL 16 (fun i => ((a + b * (i / 2) + i % 2 : Nat) : Int))
/-- The words at places. -/
def gaL (z PS : List Int) : List Int := mkL 16 (fun i => z.getD (PS.getD i 0).toNat 0)
/-- Words at places go through Perm. -/
def thL (z PS : List Int) : List Int := stN z PS (pmL (gaL z PS)) 16
def rwT (z : List Int) : Nat → List Int
  | 0 => z
  | k + 1 => thL (rwT z k) (prA (16 * k) 2)
def clT (z : List Int) : Nat → List Int
  | 0 => z
  | k + 1 => thL (clT z k) (prA (2 * k) 16)
/-- All rows, and then all columns. -/
def rcL (z : List Int) : List Int := clT (rwT z 8) 8
/-- The mix of a block with itself laid over it. -/
def mxL (r : List Int) : List Int := ovL (rcL r) r
def bx (a b : Int) : Int := bits .xor .u8 a b
/-- Bytes laid over bytes. -/
def xbL (x y : List Int) : List Int := mkL 1024 (fun i => bx (x.getD i 0) (y.getD i 0))
theorem wdL_length (zs : List Int) : (wdL zs).length = 128 := mkL_length _ _
theorem ovL_length (a b : List Int) : (ovL a b).length = 128 := mkL_length _ _
theorem xbL_length (a b : List Int) : (xbL a b).length = 1024 := mkL_length _ _
theorem byT_length (z : List Int) (k : Nat) : (byT z k).length = 8 * k := by
  induction k with
  | zero => rfl
  | succ k ih => rw [byT, List.length_append, ih, un_length]; omega
theorem byL_length (z : List Int) : (byL z).length = 1024 := byT_length z 128
theorem byT_Byt (z : List Int) (k : Nat) : Byt (byT z k) := by
  induction k with
  | zero => exact Byt.nil
  | succ k ih => exact ih.append (Byt.un _ _)
theorem byL_Byt (z : List Int) : Byt (byL z) := byT_Byt z 128
theorem bx_nat (a b : Nat) (ha : a < 256) (hb : b < 256) : bx (a : Int) (b : Int) = ((a ^^^ b : Nat) : Int) := by
  unfold bx
  rw [u8_xor _ _ (by omega) (by omega) (by omega) (by omega)]
  simp
theorem xo_nat (a b : Nat) (ha : a < 18446744073709551616) (hb : b < 18446744073709551616) : xo (a : Int) (b : Int) = ((a ^^^ b : Nat) : Int) := by
  unfold xo
  rw [u64_xor _ _ (by omega) (by omega) (by omega) (by omega)]
  simp
theorem bx_bd (a b : Int) (ha : 0 ≤ a ∧ a < 256) (hb : 0 ≤ b ∧ b < 256) : 0 ≤ bx a b ∧ bx a b < 256 := by
  obtain ⟨x, rfl⟩ := Int.eq_ofNat_of_zero_le ha.1
  obtain ⟨y, rfl⟩ := Int.eq_ofNat_of_zero_le hb.1
  rw [bx_nat _ _ (by omega) (by omega)]
  have := Nat.xor_lt_two_pow (x := x) (y := y) (n := 8) (by omega) (by omega)
  omega
theorem bx_comm (a b : Int) (ha : 0 ≤ a ∧ a < 256) (hb : 0 ≤ b ∧ b < 256) : bx a b = bx b a := by
  obtain ⟨x, rfl⟩ := Int.eq_ofNat_of_zero_le ha.1
  obtain ⟨y, rfl⟩ := Int.eq_ofNat_of_zero_le hb.1
  rw [bx_nat _ _ (by omega) (by omega), bx_nat _ _ (by omega) (by omega), Nat.xor_comm]
theorem xo_comm (a b : Int) (ha : W a) (hb : W b) : xo a b = xo b a := by
  obtain ⟨x, rfl⟩ := Int.eq_ofNat_of_zero_le ha.1
  obtain ⟨y, rfl⟩ := Int.eq_ofNat_of_zero_le hb.1
  rw [xo_nat _ _ (by have := ha.2; omega) (by have := hb.2; omega), xo_nat _ _ (by have := hb.2; omega) (by have := ha.2; omega), Nat.xor_comm]
/-- A byte of two words laid over one another. -/
theorem xo_byte (a b : Int) (ha : W a) (hb : W b) (t : Nat) : xo a b / 256 ^ t % 256 = bx (a / 256 ^ t % 256) (b / 256 ^ t % 256) := by
  obtain ⟨x, rfl⟩ := Int.eq_ofNat_of_zero_le ha.1
  obtain ⟨y, rfl⟩ := Int.eq_ofNat_of_zero_le hb.1
  have hx : x < 18446744073709551616 := by have := ha.2; omega
  have hy : y < 18446744073709551616 := by have := hb.2; omega
  rw [xo_nat _ _ hx hy]
  have e : ∀ n : Nat, ((n : Int) / 256 ^ t % 256) = ((n >>> (8 * t) % 2 ^ 8 : Nat) : Int) := fun n => by
    rw [Nat.shiftRight_eq_div_pow, Nat.pow_mul]
    simp
  rw [e, e, e, bx_nat _ _ (Nat.mod_lt _ (by decide)) (Nat.mod_lt _ (by decide)), Nat.shiftRight_xor_distrib, Nat.xor_mod_two_pow]
theorem un_le {l : List Int} (h : Byt l) : un (le l) l.length = l := by
  induction l with
  | nil => rfl
  | cons z l ih =>
    obtain ⟨hz, hl⟩ := h.cons
    rw [List.length_cons, un, le]
    have e1 : (z + 256 * le l) % 256 = z := by omega
    have e2 : (z + 256 * le l) / 256 = le l := by omega
    rw [e1, e2, ih hl]
theorem le_byte {l : List Int} (h : Byt l) {t : Nat} (ht : t < l.length) : le l / 256 ^ t % 256 = l.getD t 0 := by
  rw [← un_getD (le l) l.length t ht, un_le h]
theorem take_len (zs : List Int) (i : Nat) (h : zs.length = 1024) (hi : i < 128) : ((zs.drop (8 * i)).take 8).length = 8 := by
  rw [List.length_take, List.length_drop]; omega
theorem take_get (zs : List Int) (i t : Nat) (ht : t < 8) : ((zs.drop (8 * i)).take 8).getD t 0 = zs.getD (8 * i + t) 0 := by
  simp [List.getD_eq_getElem?_getD, List.getElem?_take, ht, List.getElem?_drop]
theorem wd_W (zs : List Int) (hz : Byt zs) (i : Nat) : W (le ((zs.drop (8 * i)).take 8)) := by
  have hb := le_bd ((hz.drop (8 * i)).take 8)
  have hl : ((zs.drop (8 * i)).take 8).length ≤ 8 := by rw [List.length_take]; omega
  have := p256 _ hl
  exact ⟨hb.1, by omega⟩
theorem wdL_Ws {zs : List Int} (hz : Byt zs) : Ws (wdL zs) := mkL_Ws fun i _ => wd_W zs hz i
theorem ovL_Ws (a b : List Int) : Ws (ovL a b) := mkL_Ws fun i _ => xo_bd _ _
theorem byT_getD (z : List Int) (k m : Nat) (h : m < 8 * k) : (byT z k).getD m 0 = z.getD (m / 8) 0 / 256 ^ (m % 8) % 256 := by
  induction k with
  | zero => omega
  | succ k ih =>
    rw [byT, List.getD_eq_getElem?_getD]
    by_cases hm : m < 8 * k
    · rw [List.getElem?_append_left (by rw [byT_length]; exact hm), ← List.getD_eq_getElem?_getD, ih hm]
    · rw [List.getElem?_append_right (by rw [byT_length]; omega), ← List.getD_eq_getElem?_getD, byT_length, un_getD _ _ _ (by omega)]
      have e1 : m / 8 = k := by omega
      have e2 : m - 8 * k = m % 8 := by omega
      rw [e1, e2]
theorem byL_getD (z : List Int) (m : Nat) (h : m < 1024) : (byL z).getD m 0 = z.getD (m / 8) 0 / 256 ^ (m % 8) % 256 := byT_getD z 128 m (by omega)
/-- The bytes of words laid over one another. -/
theorem by_ov {x y : List Int} (hx : Byt x) (hy : Byt y) (lx : x.length = 1024) (ly : y.length = 1024) : byL (ovL (wdL x) (wdL y)) = xbL x y := by
  refine mkL_ext (byL_length _) (xbL_length _ _) fun m hm => ?_
  have h8 : m / 8 < 128 := by omega
  have ht : m % 8 < 8 := by omega
  have em : 8 * (m / 8) + m % 8 = m := by omega
  rw [byL_getD _ _ hm]
  unfold ovL xbL
  rw [mkL_getD _ h8, mkL_getD _ hm]
  unfold wdL
  rw [mkL_getD _ h8, mkL_getD _ h8, xo_byte _ _ (wd_W x hx _) (wd_W y hy _)]
  rw [le_byte ((hx.drop _).take 8) (by rw [take_len _ _ lx h8]; exact ht), le_byte ((hy.drop _).take 8) (by rw [take_len _ _ ly h8]; exact ht)]
  rw [take_get _ _ _ ht, take_get _ _ _ ht, em]
/-- The words of a block's bytes. -/
theorem wd_by {z : List Int} (hz : Ws z) (lz : z.length = 128) : wdL (byL z) = z := by
  refine mkL_ext (wdL_length _) lz fun i hi => ?_
  unfold wdL
  rw [mkL_getD _ hi]
  have e : (List.take 8 (List.drop (8 * i) (byL z))) = un (z.getD i 0) 8 := by
    refine mkL_ext (take_len _ _ (byL_length _) hi) (un_length _ _) fun t ht => ?_
    rw [take_get _ _ _ ht, byL_getD _ _ (by omega), un_getD _ _ _ ht]
    have e1 : (8 * i + t) / 8 = i := by omega
    have e2 : (8 * i + t) % 8 = t := by omega
    rw [e1, e2]
  rw [e]
  have hw := hz.get i
  exact le_un _ _ hw.1 (by have := hw.2; omega)
theorem xbL_Byt {x y : List Int} (hx : Byt x) (hy : Byt y) : Byt (xbL x y) := fun z hz => by
  obtain ⟨i, _, rfl⟩ := List.mem_map.1 hz
  exact bx_bd _ _ (hx.get i) (hy.get i)
theorem xbL_comm {x y : List Int} (hx : Byt x) (hy : Byt y) : xbL x y = xbL y x := mkL_congr fun i _ => bx_comm _ _ (hx.get i) (hy.get i)
theorem wd_xb {x y : List Int} (hx : Byt x) (hy : Byt y) (lx : x.length = 1024) (ly : y.length = 1024) : wdL (xbL x y) = ovL (wdL x) (wdL y) := by
  rw [← by_ov hx hy lx ly, wd_by (ovL_Ws _ _) (ovL_length _ _)]
theorem stN_Ws {us PS rs : List Int} (h : Ws us) (hr : Ws rs) (j : Nat) : Ws (stN us PS rs j) := by
  induction j with
  | zero => exact h
  | succ j ih => exact ih.set (hr.get j) _
theorem gaL_length (z PS : List Int) : (gaL z PS).length = 16 := mkL_length _ _
theorem gaL_Ws {z : List Int} (PS : List Int) (h : Ws z) : Ws (gaL z PS) := mkL_Ws fun i _ => h.get _
theorem thL_length (z PS : List Int) : (thL z PS).length = z.length := stN_length _ _ _ _
theorem thL_Ws {z : List Int} (PS : List Int) (h : Ws z) : Ws (thL z PS) := stN_Ws h (pmL_Ws (gaL_Ws PS h)) 16
theorem rwT_length (z : List Int) (k : Nat) : (rwT z k).length = z.length := by
  induction k with
  | zero => rfl
  | succ k ih => rw [rwT, thL_length, ih]
theorem clT_length (z : List Int) (k : Nat) : (clT z k).length = z.length := by
  induction k with
  | zero => rfl
  | succ k ih => rw [clT, thL_length, ih]
theorem rwT_Ws {z : List Int} (h : Ws z) (k : Nat) : Ws (rwT z k) := by
  induction k with
  | zero => exact h
  | succ k ih => exact thL_Ws _ ih
theorem clT_Ws {z : List Int} (h : Ws z) (k : Nat) : Ws (clT z k) := by
  induction k with
  | zero => exact h
  | succ k ih => exact thL_Ws _ ih
theorem rcL_length (z : List Int) : (rcL z).length = z.length := by unfold rcL; rw [clT_length, rwT_length]
theorem rcL_Ws {z : List Int} (h : Ws z) : Ws (rcL z) := clT_Ws (rwT_Ws h 8) 8
theorem mxL_length (r : List Int) : (mxL r).length = 128 := ovL_length _ _
theorem mxL_Ws (r : List Int) : Ws (mxL r) := ovL_Ws _ _
/-- The document's mix in bytes is the program's in words. -/
theorem mix_by {x y : List Int} (hx : Byt x) (hy : Byt y) (lx : x.length = 1024) (ly : y.length = 1024) : byL (mxL (ovL (wdL x) (wdL y))) = xbL (xbL x y) (byL (rcL (wdL (xbL x y)))) := by
  have hR : Byt (xbL x y) := xbL_Byt hx hy
  rw [← wd_xb hx hy lx ly]
  generalize hr : xbL x y = r at *
  have lr : r.length = 1024 := by rw [← hr]; exact xbL_length _ _
  have hZ : Ws (rcL (wdL r)) := rcL_Ws (wdL_Ws hR)
  have lZ : (rcL (wdL r)).length = 128 := by rw [rcL_length, wdL_length]
  unfold mxL
  have e : ovL (rcL (wdL r)) (wdL r) = ovL (wdL (byL (rcL (wdL r)))) (wdL r) := by rw [wd_by hZ lZ]
  rw [e, by_ov (byL_Byt _) hR (byL_length _) lr, xbL_comm (byL_Byt _) hR]
theorem over_by {m o : List Int} (hm : Ws m) (lm : m.length = 128) (ho : Byt o) (lo : o.length = 1024) : byL (ovL m (wdL o)) = xbL (byL m) o := by
  have e : ovL m (wdL o) = ovL (wdL (byL m)) (wdL o) := by rw [wd_by hm lm]
  rw [e, by_ov (byL_Byt _) ho (byL_length _) lo]
end LW
end Go.Proofs.YtkgemkfajkcgcaaDoor
