/-
  What the calls Check (the program) and Check (the document) give: the same number, for all parameters.
-/
import Derived.Test.YtomdplcmbcjkfaaPlace
import Derived.Deep.RegionHeld3
namespace Go.Proofs.Ytomdplcmbcjkfaa
open Go.RowKit
set_option linter.unusedVariables false
namespace LW
open Words
theorem blk_keep {w w' : World} {b : Nat} {o : Obj} (h : w.heap[b]? = some o) (hb : Below w.heap.size w w') : w'.heap[b]? = some o := by
  rw [hb.block _ (Array.getElem?_eq_some_iff.1 h).1]; exact h
theorem below_of_drew {B : Nat} {w w' : World} (h : Below B w.drew w') : Below B w w' := ⟨h.os, h.tape, h.output, h.size, h.block⟩
theorem blk_cell {w : World} {b i : Nat} {cs : Array Value} {t : TypeId} {fr : Nat × Nat} {v : Value} (h : w.heap[b]? = some (.cells cs t fr)) (hv : cs[i]? = some v) : w.cell? ⟨b, i, none⟩ = some v := by
  simp [World.cell?, h, hv]
theorem blk_lt {w : World} {b : Nat} {o : Obj} (h : w.heap[b]? = some o) : b < w.heap.size := (Array.getElem?_eq_some_iff.1 h).1
/-- The cells of parameters. -/
def pc (d k f dp lf off xof nd inn : Int) (s t : Value) : Array Value := #[.int .i64 d, .int .i64 k, .int .i64 f, .int .i64 dp, .int .u32 lf, .int .u64 off, .int .u32 xof, .int .i64 nd, .int .i64 inn, s, t]
/-- What Check tells once the kind is one. -/
def ckG (m m4 : Int) (x : Bool) (s6 s7 : Nat) (d k f dp off xof nd inn : Int) (sl tl : Nat) : Int :=
  if d < 1 ∨ m < d then 20 else if k < 0 ∨ m < k then 8 else if f < 0 ∨ 255 < f then 21 else if dp < 0 ∨ 255 < dp then 22 else if dp = 0 ∧ x = false then 22
  else if ¬ off < 2 ^ (8 * s6) then 23 else if ¬ xof < 2 ^ (8 * s7) then 24 else if nd < 0 ∨ 255 < nd then 25 else if inn < 0 ∨ m < inn then 26 else if m4 < sl then 27 else if m4 < tl then 28 else 0
/-- What Check tells. -/
def ck (kd d k f dp off xof nd inn : Int) (sl tl : Nat) : Int :=
  if kd = 1 then ckG 64 16 (xof != 0) (if xof = 0 then 8 else 4) (if xof = 0 then 0 else 4) d k f dp off xof nd inn sl tl
  else if kd = 2 then ckG 32 8 (xof != 0) (if xof = 0 then 6 else 4) (if xof = 0 then 0 else 2) d k f dp off xof nd inn sl tl else 1

set_option maxHeartbeats 4000000 in
theorem checkG (kd m m4 m8 i1 i2 a6 a7 : Int) (x : Bool) (s6 s7 : Nat) (h6 : s6 ≤ 16) (h7 : s7 ≤ 16) (d k f dp lf off xof nd inn : Int) (sa ta : Option Addr) (sl sc tl tc : Nat) (w : World)
    (hx : (xof != 0) = x) (o0 : 0 ≤ off) (o1 : off < 18446744073709551616) (x0 : 0 ≤ xof) (x1 : xof < 4294967296)
    (H : Hid (∀ W : World, Calls Try.prog 27 #[.int .i64 kd] W fun e w' => e = .returned (.tuple #[.agg #[.int .i64 m, .int .i64 m, .int .i64 m4, .int .i64 m8, .int .i64 i1, .int .i64 i2], .int .i64 0]) ∧ Below W.heap.size W w'))
    (P6 : Hid (∀ W : World, Calls Try.prog 21 #[.int .i64 6, .int .i64 kd, .bool x] W fun e w' => e = .returned (.agg #[.int .i64 a6, .int .i64 s6]) ∧ Below W.heap.size W w'))
    (P7 : Hid (∀ W : World, Calls Try.prog 21 #[.int .i64 7, .int .i64 kd, .bool x] W fun e w' => e = .returned (.agg #[.int .i64 a7, .int .i64 s7]) ∧ Below W.heap.size W w')) :
    Calls Try.prog 17 #[.int .i64 kd, .agg (pc d k f dp lf off xof nd inn (.slice sa sl sc) (.slice ta tl tc))] w fun e w' => e = .returned (.int .i64 (ckG m m4 x s6 s7 d k f dp off xof nd inn sl tl)) ∧ Below w.heap.size w w' := by
  have HO := TW.hide outside
  have hwx : IntKind.u64.wrap xof = xof := by rw [IntKind.wrap_u64]; omega
  have q6 := fun W => holds a6 off s6 W h6 o0 o1
  have q7 := fun W => holds a7 xof s7 W h7 x0 (by omega)
  have hck : ∀ r, ckG m m4 x s6 s7 d k f dp off xof nd inn sl tl = r → r = ckG m m4 x s6 s7 d k f dp off xof nd inn sl tl := fun r h => h.symm
  have HC := TW.hide hck
  obtain ⟨y6, hy6⟩ : ∃ y, decide (off < 2 ^ (8 * s6)) = y := ⟨_, rfl⟩
  obtain ⟨y7, hy7⟩ : ∃ y, decide (xof < 2 ^ (8 * s7)) = y := ⟨_, rfl⟩
  rw [hy6] at q6
  rw [hy7] at q7
  have Y6 := TW.hide hy6
  have Y7 := TW.hide hy7
  clear hy6 hy7
  have Q6 := TW.hide q6
  have Q7 := TW.hide q7
  clear q6 q7 hck o0 o1 x0 x1 h6 h7
  unfold pc
  go_enter Try.func17, Try.ntmps17
  go_wp2_with fail
  refine (H.out _).mono ?_
  rintro e w1 ⟨rfl, hb⟩
  have hs1 : w.heap.size < w1.heap.size := by have := hb.size; simp at this; omega
  have n1 := blk_new hb
  have c0 := blk_cell n1 (i := 0) rfl
  have c1 := blk_cell n1 (i := 1) rfl
  have c2 := blk_cell n1 (i := 2) rfl
  have c3 := blk_cell n1 (i := 3) rfl
  have c5 := blk_cell n1 (i := 5) rfl
  have c6 := blk_cell n1 (i := 6) rfl
  have c7 := blk_cell n1 (i := 7) rfl
  have c8 := blk_cell n1 (i := 8) rfl
  have HN := TW.hide n1
  have HB : Hid (Below w.heap.size w w1) := ((Below.refl _ _).alloc (Nat.le_refl _) _).trans (hb.mono (by simp))
  have hne : w.heap.size ≠ w1.heap.size := by omega
  clear hb n1
  go_wp2_with fail
  refine (HO.out d 1 m _).mono ?_
  rintro e w' ⟨rfl, rfl⟩
  by_cases k1 : d < 1 ∨ m < d
  · have bk1 : (decide (d < 1) || decide (m < d)) = true := by simpa using k1
    go_wp2_with fail
    go_ret
    exact ⟨TW.ret_int (HC.out _ (by simp [ckG, k1])), HB.out.alloc (by omega) _⟩
  have bk1 : (decide (d < 1) || decide (m < d)) = false := by simp at k1 ⊢; omega
  go_wp2_with fail
  refine (HO.out k 0 m _).mono ?_
  rintro e w' ⟨rfl, rfl⟩
  by_cases k2 : k < 0 ∨ m < k
  · have bk2 : (decide (k < 0) || decide (m < k)) = true := by simpa using k2
    go_wp2_with fail
    go_ret
    exact ⟨TW.ret_int (HC.out _ (by simp [ckG, k1, k2])), HB.out.alloc (by omega) _⟩
  have bk2 : (decide (k < 0) || decide (m < k)) = false := by simp at k2 ⊢; omega
  go_wp2_with fail
  refine (HO.out f 0 255 _).mono ?_
  rintro e w' ⟨rfl, rfl⟩
  by_cases k3 : f < 0 ∨ 255 < f
  · have bk3 : (decide (f < 0) || decide (255 < f)) = true := by simpa using k3
    go_wp2_with fail
    go_ret
    exact ⟨TW.ret_int (HC.out _ (by simp [ckG, k1, k2, k3])), HB.out.alloc (by omega) _⟩
  have bk3 : (decide (f < 0) || decide (255 < f)) = false := by simp at k3 ⊢; omega
  go_wp2_with fail
  refine (HO.out dp 0 255 _).mono ?_
  rintro e w' ⟨rfl, rfl⟩
  by_cases k4 : dp < 0 ∨ 255 < dp
  · have bk4 : (decide (dp < 0) || decide (255 < dp)) = true := by simpa using k4
    go_wp2_with fail
    go_ret
    exact ⟨TW.ret_int (HC.out _ (by simp [ckG, k1, k2, k3, k4])), HB.out.alloc (by omega) _⟩
  have bk4 : (decide (dp < 0) || decide (255 < dp)) = false := by simp at k4 ⊢; omega
  by_cases k5 : dp = 0 ∧ x = false
  · have b5 : (dp == 0) = true := by simp [k5.1]
    have b5' : x = false := k5.2
    subst b5'
    go_wp2_with fail
    go_ret
    exact ⟨TW.ret_int (HC.out _ (by simp [ckG, k1, k2, k3, k5])), HB.out.alloc (by omega) _⟩
  have b5 : (dp = 0 ∧ x = true) ∨ (dp == 0) = false := by
    by_cases h : dp = 0
    · exact .inl ⟨h, by cases x <;> simp_all⟩
    · exact .inr (by simp [h])
  have k5' : ¬ (dp = 0 ∧ x = false) := k5
  rcases b5 with ⟨rfl, rfl⟩ | b5
  all_goals
    go_wp2_with fail
    have hN := blk_alloc (o' := .cells #[.int .i64 m, .int .i64 m, .int .i64 m4, .int .i64 m8, .int .i64 i1, .int .i64 i2] 59) HN.out
    have hM := heap_alloc_new w1 (.cells #[.int .i64 m, .int .i64 m, .int .i64 m4, .int .i64 m8, .int .i64 i1, .int .i64 i2] 59)
    have hB := HB.out.alloc (Nat.le_of_lt hs1) (.cells #[.int .i64 m, .int .i64 m, .int .i64 m4, .int .i64 m8, .int .i64 i1, .int .i64 i2] 59)
    have hL : w1.heap.size < (w1.alloc (.cells #[.int .i64 m, .int .i64 m, .int .i64 m4, .int .i64 m8, .int .i64 i1, .int .i64 i2] 59)).heap.size := by simp
    generalize w1.alloc _ = W1 at hN hM hB hL ⊢
    clear c0 c1 c2 c3 c5 c6 c7 c8
    have c5 := blk_cell hN (i := 5) (v := .int .u64 off) rfl
    have N1 := TW.hide hN
    have M1 := TW.hide hM
    have B1 := TW.hide hB
    clear hN hM hB HN HB
    have hL' : w.heap.size < W1.heap.size := by omega
    go_region_held3 (fun w' => w'.cell? ⟨w.heap.size, 5, none⟩ = some (.int .u64 off))
      (first | go_keep | (rw [hb2.cell hL']; assumption) | (rw [hb3.cell (Nat.lt_of_lt_of_le hL' hb2.size)]; assumption))
      (first | (go_at_call 21; refine (P6.out _).mono ?_; rintro e w2 ⟨rfl, hb2⟩) | (go_at_call 31; refine (Q6.out _).mono ?_; rintro e w3 ⟨rfl, hb3⟩))
    replace hb2 : Below W1.heap.size W1 w2 := below_of_drew hb2
    have N3 : Hid (w3.heap[w.heap.size]? = _) := TW.hide (blk_keep (blk_keep N1.out hb2) hb3)
    have M3 : Hid (w3.heap[w1.heap.size]? = _) := TW.hide (blk_keep (blk_keep M1.out hb2) hb3)
    have hl2 : W1.heap.size ≤ w2.heap.size := hb2.size
    have hl3 : w2.heap.size ≤ w3.heap.size := hb3.size
    have B3 : Hid (Below w.heap.size w w3) := (B1.out.trans ((show Below W1.heap.size W1 w2 from hb2).mono (by omega))).trans (hb3.mono (by omega))
    clear hb2 hb3 N1 M1 B1 c5
    cases y6
    case false =>
      have k6 := of_decide_eq_false Y6.out
      clear Y6
      go_wp2_with fail
      go_ret
      exact ⟨TW.ret_int (HC.out _ (by simp [ckG, k1, k2, k3, k4, k5', k6])), B3.out⟩
    have k6 := of_decide_eq_true Y6.out
    have K6 := TW.hide k6
    clear Y6 k6
    have c6 := blk_cell N3.out (i := 6) (v := .int .u32 xof) rfl
    go_wp2_with fail
    have hL3 : w.heap.size < w3.heap.size := by omega
    go_region_held3 (fun w' => w'.cell? ⟨w.heap.size, 6, none⟩ = some (.int .u32 xof))
      (first | go_keep | (rw [hb4.cell hL3]; assumption) | (rw [hb5.cell (Nat.lt_of_lt_of_le hL3 hb4.size)]; assumption))
      (first | (go_at_call 21; refine (P7.out _).mono ?_; rintro e w4 ⟨rfl, hb4⟩) | (go_at_call 31; refine (Q7.out _).mono ?_; rintro e w5 ⟨rfl, hb5⟩))
    replace hb4 : Below w3.heap.size w3 w4 := below_of_drew hb4
    have n5 := blk_keep (blk_keep N3.out hb4) hb5
    have m5 := blk_keep (blk_keep M3.out hb4) hb5
    have hl4 : w3.heap.size ≤ w4.heap.size := hb4.size
    have hl5 : w4.heap.size ≤ w5.heap.size := hb5.size
    have B5 : Hid (Below w.heap.size w w5) := (B3.out.trans ((show Below w3.heap.size w3 w4 from hb4).mono (by omega))).trans (hb5.mono (by omega))
    have c7 := blk_cell n5 (i := 7) (v := .int .i64 nd) rfl
    have c8 := blk_cell n5 (i := 8) (v := .int .i64 inn) rfl
    have c9 := blk_cell n5 (i := 9) (v := .slice sa sl sc) rfl
    have c10 := blk_cell n5 (i := 10) (v := .slice ta tl tc) rfl
    have d1 := blk_cell m5 (i := 1) (v := .int .i64 m) rfl
    have d2 := blk_cell m5 (i := 2) (v := .int .i64 m4) rfl
    clear hb4 hb5 N3 M3 B3 c6 n5 m5
    cases y7
    case false =>
      have k7 := of_decide_eq_false Y7.out
      clear Y7
      go_wp2_with fail
      go_ret
      exact ⟨TW.ret_int (HC.out _ (by simp [ckG, k1, k2, k3, k4, k5', K6.out, k7])), B5.out⟩
    have k7 := of_decide_eq_true Y7.out
    have K7 := TW.hide k7
    clear Y7 k7
    go_wp2_with fail
    refine (HO.out nd 0 255 _).mono ?_
    rintro e w' ⟨rfl, rfl⟩
    by_cases k8 : nd < 0 ∨ 255 < nd
    · have bk8 : (decide (nd < 0) || decide (255 < nd)) = true := by simpa using k8
      go_wp2_with fail
      go_ret
      exact ⟨TW.ret_int (HC.out _ (by simp [ckG, k1, k2, k3, k4, k5', K6.out, K7.out, k8])), B5.out⟩
    have bk8 : (decide (nd < 0) || decide (255 < nd)) = false := by simp at k8 ⊢; omega
    go_wp2_with fail
    refine (HO.out inn 0 m _).mono ?_
    rintro e w' ⟨rfl, rfl⟩
    by_cases k9 : inn < 0 ∨ m < inn
    · have bk9 : (decide (inn < 0) || decide (m < inn)) = true := by simpa using k9
      go_wp2_with fail
      go_ret
      exact ⟨TW.ret_int (HC.out _ (by simp [ckG, k1, k2, k3, k4, k5', K6.out, K7.out, k8, k9])), B5.out⟩
    have bk9 : (decide (inn < 0) || decide (m < inn)) = false := by simp at k9 ⊢; omega
    by_cases k10 : m4 < sl
    · have b10 : decide (m4 < (sl : Int)) = true := by simpa using k10
      go_wp2_with fail
      go_ret
      exact ⟨TW.ret_int (HC.out _ (by simp [ckG, k1, k2, k3, k4, k5', K6.out, K7.out, k8, k9, k10])), B5.out⟩
    have b10 : decide (m4 < (sl : Int)) = false := by simpa using k10
    by_cases k11 : m4 < tl
    · have b11 : decide (m4 < (tl : Int)) = true := by simpa using k11
      go_wp2_with fail
      go_ret
      exact ⟨TW.ret_int (HC.out _ (by simp [ckG, k1, k2, k3, k4, k5', K6.out, K7.out, k8, k9, k10, k11])), B5.out⟩
    have b11 : decide (m4 < (tl : Int)) = false := by simpa using k11
    go_wp2_with fail
    go_ret
    exact ⟨TW.ret_int (HC.out _ (by simp [ckG, k1, k2, k3, k4, k5', K6.out, K7.out, k8, k9]; rw [if_neg (by omega), if_neg (by omega)])), B5.out⟩
theorem pSz6 (kd : Int) (xof : Int) : pSz kd 6 (xof != 0) = (((if xof = 0 then (if kd = 2 then 6 else 8) else 4 : Nat)) : Int) := by
  unfold pSz rSz
  by_cases h : xof = 0 <;> by_cases h2 : kd = 2 <;> simp [h, h2]
theorem pSz7 (kd : Int) (xof : Int) : pSz kd 7 (xof != 0) = (((if xof = 0 then 0 else (if kd = 2 then 2 else 4) : Nat)) : Int) := by
  unfold pSz rSz
  by_cases h : xof = 0 <;> by_cases h2 : kd = 2 <;> simp [h, h2]
theorem check (kd d k f dp lf off xof nd inn : Int) (sa ta : Option Addr) (sl sc tl tc : Nat) (w : World)
    (o0 : 0 ≤ off) (o1 : off < 18446744073709551616) (x0 : 0 ≤ xof) (x1 : xof < 4294967296) :
    Calls Try.prog 17 #[.int .i64 kd, .agg (pc d k f dp lf off xof nd inn (.slice sa sl sc) (.slice ta tl tc))] w fun e w' => e = .returned (.int .i64 (ck kd d k f dp off xof nd inn sl tl)) ∧ Below w.heap.size w w' := by
  rcases kinds kd with rfl | rfl | ⟨h1, h2⟩
  · have h6 := fun W => placeOf 6 1 (xof != 0) W (by omega) (by omega)
    have h7 := fun W => placeOf 7 1 (xof != 0) W (by omega) (by omega)
    rw [pSz6] at h6
    rw [pSz7] at h7
    exact checkG 1 64 16 8 18 14 8 12 _ (if xof = 0 then 8 else 4) (if xof = 0 then 0 else 4) (by split <;> omega) (by split <;> omega) d k f dp lf off xof nd inn sa ta sl sc tl tc w rfl o0 o1 x0 x1 (fun W => measures 1 W) h6 h7
  · have h6 := fun W => placeOf 6 2 (xof != 0) W (by omega) (by omega)
    have h7 := fun W => placeOf 7 2 (xof != 0) W (by omega) (by omega)
    rw [pSz6] at h6
    rw [pSz7] at h7
    exact checkG 2 32 8 4 0 0 8 12 _ (if xof = 0 then 6 else 4) (if xof = 0 then 0 else 2) (by split <;> omega) (by split <;> omega) d k f dp lf off xof nd inn sa ta sl sc tl tc w rfl o0 o1 x0 x1 (fun W => measures 2 W) h6 h7
  · have e0 : ck kd d k f dp off xof nd inn sl tl = 1 := by simp [ck, h1, h2]
    have h := fun W => measures kd W
    have e2 : ke kd = 1 := by simp [ke, h1, h2]
    rw [e2] at h
    unfold msC at h
    rw [e0]
    generalize mo kd = m at *
    generalize (if kd = 1 then (18 : Int) else 0) = i1 at *
    generalize (if kd = 1 then (14 : Int) else 0) = i2 at *
    generalize m / 4 = m4 at *
    generalize m / 8 = m8 at *
    have H := TW.hide h
    clear h e0 e2 o0 o1 x0 x1
    unfold pc
    go_enter Try.func17, Try.ntmps17
    go_wp2_with fail
    refine (H.out _).mono ?_
    rintro e w1 ⟨rfl, hb⟩
    have HB : Hid (Below w.heap.size w w1) := ((Below.refl _ _).alloc (Nat.le_refl _) _).trans (hb.mono (by simp))
    have hsz := HB.out.size
    clear hb
    go_wp2_with fail
    go_ret
    exact ⟨rfl, HB.out.alloc (by omega) _⟩
end LW
end Go.Proofs.Ytomdplcmbcjkfaa
