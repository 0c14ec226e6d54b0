/-
  Lists of digests, and steps of paths: how they lie; the law's own tests on paths that are the same.
-/
import Derived.Test.YtcpegipojkbcoaaRWay
import Derived.Test.YtcpegipojkbcoaaSame
namespace Go.Proofs.Ytcpegipojkbcoaa
open Go.RowKit
set_option linter.unusedVariables false
set_option linter.unusedSimpArgs false
namespace LW
open Words
/-- A list of rows of bytes, wherever it lies. -/
def Ls (W : World) (a : Option Addr) (ls : List (List Int)) : Prop := ls = [] ∨ ∃ b off, a = some ⟨b, off, none⟩ ∧ ∀ r, r < ls.length → ∃ A K, W.cell? ⟨b, off + r, none⟩ = some (.slice A (ls.getD r []).length K) ∧ Row W A (ls.getD r [])
/-- Not too long. -/
def LB (ls : List (List Int)) : Prop := ls.length ≤ 1048576 ∧ ∀ r, (ls.getD r []).length ≤ 1048576
theorem Ls.below {w w' : World} {a : Option Addr} {ls : List (List Int)} (h : Ls w a ls) (hb : Below w.heap.size w w') : Ls w' a ls := by
  rcases h with h | ⟨b, off, rfl, hc⟩
  · exact .inl h
  · refine .inr ⟨b, off, rfl, fun r hr => ?_⟩
    obtain ⟨A, K, h1, h2⟩ := hc r hr
    exact ⟨A, K, by rw [hb.cell (lt_of_cell h1)]; exact h1, h2.below hb⟩
theorem Ls.drewN {w : World} {a : Option Addr} {ls : List (List Int)} (h : Ls w a ls) (q : Nat) : Ls (w.drewN q) a ls := h
/-- The steps of a path, wherever they lie. -/
def Sts (W : World) (a : Option Addr) (ss : List (List (List Int) × List (List Int))) : Prop := ss = [] ∨ ∃ b off, a = some ⟨b, off, none⟩ ∧ ∀ i, i < ss.length → ∃ A K A' K', W.cell? ⟨b, off + i * 2, none⟩ = some (.slice A (ss.getD i ([], [])).1.length K) ∧ W.cell? ⟨b, off + i * 2 + 1, none⟩ = some (.slice A' (ss.getD i ([], [])).2.length K') ∧ Ls W A (ss.getD i ([], [])).1 ∧ Ls W A' (ss.getD i ([], [])).2
def SB (ss : List (List (List Int) × List (List Int))) : Prop := ss.length ≤ 1048576 ∧ ∀ i, LB (ss.getD i ([], [])).1 ∧ LB (ss.getD i ([], [])).2
theorem Sts.below {w w' : World} {a : Option Addr} {ss : List (List (List Int) × List (List Int))} (h : Sts w a ss) (hb : Below w.heap.size w w') : Sts w' a ss := by
  rcases h with h | ⟨b, off, rfl, hc⟩
  · exact .inl h
  · refine .inr ⟨b, off, rfl, fun r hr => ?_⟩
    obtain ⟨A, K, A', K', h1, h2, h3, h4⟩ := hc r hr
    exact ⟨A, K, A', K', by rw [hb.cell (lt_of_cell h1)]; exact h1, by rw [hb.cell (lt_of_cell h2)]; exact h2, h3.below hb, h4.below hb⟩
theorem Sts.drewN {w : World} {a : Option Addr} {ss : List (List (List Int) × List (List Int))} (h : Sts w a ss) (q : Nat) : Sts (w.drewN q) a ss := h
theorem same11 (a a' : Option Addr) (cap cap' : Nat) (zs : List Int) (w : World) (hr : Row w a zs) (hr' : Row w a' zs) (hm : zs.length ≤ maxLen) :
    Calls Try.prog 12 #[.slice a zs.length cap, .slice a' zs.length cap'] w fun e w' => e = .returned (.bool true) ∧ ∃ q, w' = w.drewN q := by
  have h := fun W (h1 : Row W a zs) (h2 : Row W a' zs) => same a a' cap cap' zs zs W h1 h2 hm hm
  simp only [decide_true] at h
  have HS := TW.hide (h w hr hr')
  clear h hr hr'
  generalize zs.length = n at *
  go_enter Try.func12, Try.ntmps12
  go_wp2_with fail
  refine HS.out.mono ?_
  rintro e w' ⟨rfl, q, rfl⟩
  go_wp2
  go_ret
  exact ⟨rfl, q, rfl⟩
set_option maxRecDepth 100000 in
set_option maxHeartbeats 1000000 in
theorem lists11 (a a' : Option Addr) (cap cap' : Nat) (ls : List (List Int)) (w : World) (h : Ls w a ls) (h' : Ls w a' ls) (hB : LB ls) :
    Calls Try.prog 34 #[.slice a ls.length cap, .slice a' ls.length cap'] w fun e w' => e = .returned (.bool true) ∧ ∃ q, w' = w.drewN q := by
  have HS : Hid (∀ (r : Nat) (W : World) (x x' : Option Addr) (c c' : Nat), Row W x (ls.getD r []) → Row W x' (ls.getD r []) → Calls Try.prog 12 #[.slice x (ls.getD r []).length c, .slice x' (ls.getD r []).length c'] W fun e w' => e = .returned (.bool true) ∧ ∃ q, w' = W.drewN q) := fun r W x x' c c' k1 k2 => same11 x x' c c' _ W k1 k2 (Nat.le_trans (hB.2 r) (by unfold maxLen; omega))
  have hl := hB.1
  have HG : Hid (∀ r, r < ls.length → ∃ b off b' off' A K A' K', a = some ⟨b, off, none⟩ ∧ a' = some ⟨b', off', none⟩ ∧ w.cell? ⟨b, off + r, none⟩ = some (.slice A (ls.getD r []).length K) ∧ w.cell? ⟨b', off' + r, none⟩ = some (.slice A' (ls.getD r []).length K') ∧ Row w A (ls.getD r []) ∧ Row w A' (ls.getD r [])) := by
    intro r hr
    rcases h with h | ⟨b, off, e, hc⟩
    · rw [h] at hr; simp at hr
    rcases h' with h' | ⟨b', off', e', hc'⟩
    · rw [h'] at hr; simp at hr
    obtain ⟨A, K, k1, k2⟩ := hc r hr
    obtain ⟨A', K', k3, k4⟩ := hc' r hr
    exact ⟨b, off, b', off', A, K, A', K', e, e', k1, k3, k2, k4⟩
  clear h h' hB
  generalize ls.length = n at *
  have hne : ((n : Int) != (n : Int)) = false := by simp
  go_enter Try.func34, Try.ntmps34
  go_wp2
  go_loopw [5] (fun i wr => ∃ (k q : Nat), k ≤ n ∧ i = .int .i64 k ∧ wr = w.drewN q) (fun i _ => n - (intOf i).toNat)
  case atStart => exact ⟨0, 0, Nat.zero_le _, rfl, rfl⟩
  case round =>
    obtain ⟨k, q, hk, rfl, hwq⟩ := hrel
    have HQ := TW.hide hwq
    have BQ : Hid (Below w.heap.size w wr) := by rw [hwq]; exact below_drewN (Below.refl _ _) q
    clear hwq
    by_cases hlt : k < n
    · obtain ⟨b, off, b', off', A, K, A', K', rfl, rfl, k1, k2, k3, k4⟩ := HG.out k hlt
      rw [← BQ.out.cell (lt_of_cell k1)] at k1
      rw [← BQ.out.cell (lt_of_cell k2)] at k2
      have SMK := TW.hide (fun X => HS.out k (wr.drewN X) A A' K K' ((k3.below BQ.out).drewN X) ((k4.below BQ.out).drewN X))
      have hkI : (0 : Int) ≤ (k : Int) := Int.natCast_nonneg _
      have hkJ : (k : Int) < (n : Int) := by omega
      clear k3 k4 HG
      generalize (ls.getD k []).length = ll at *
      go_wp2
      go_quiet ((go_at_call 12; exact Calls.quiet_of (SMK.out _)))
      go_wp2
      go_roundw
      case rel => exact ⟨k + 1, q + nq, by omega, by go_num, by rw [HQ.out, World.drewN_drewN]⟩
      case measure => simp [intOf]; omega
    · obtain rfl : k = n := by omega
      go_wp2
      go_ret
      exact ⟨rfl, q, HQ.out⟩
/-- A path as a value. -/
def paC (t l : Nat) (a : Option Addr) (n c : Nat) : Array Value := #[.int .u64 t, .int .u64 l, .slice a n c]
theorem cellsP3 {w : World} {b : Nat} {t : TypeId} {v0 v1 v2 : Value} (h : w.heap[b]? = some (.cells #[v0, v1, v2] t (0, 0))) : w.cell? ⟨b, 0, none⟩ = some v0 ∧ w.cell? ⟨b, 1, none⟩ = some v1 ∧ w.cell? ⟨b, 2, none⟩ = some v2 := by
  simp [World.cell?, h]
set_option maxRecDepth 100000 in
set_option maxHeartbeats 2000000 in
theorem alike11 (t l : Nat) (a a' : Option Addr) (cap cap' : Nat) (ss : List (List (List Int) × List (List Int))) (w : World) (h : Sts w a ss) (h' : Sts w a' ss) (hB : SB ss) :
    Calls Try.prog 13 #[.agg (paC t l a ss.length cap), .agg (paC t l a' ss.length cap')] w fun e w' => e = .returned (.bool true) ∧ Below w.heap.size w w' := by
  have HS1 : Hid (∀ (r : Nat) (W : World) (x x' : Option Addr) (c c' : Nat), Ls W x (ss.getD r ([], [])).1 → Ls W x' (ss.getD r ([], [])).1 → Calls Try.prog 34 #[.slice x (ss.getD r ([], [])).1.length c, .slice x' (ss.getD r ([], [])).1.length c'] W fun e w' => e = .returned (.bool true) ∧ ∃ q, w' = W.drewN q) := fun r W x x' c c' k1 k2 => lists11 x x' c c' _ W k1 k2 (hB.2 r).1
  have HS2 : Hid (∀ (r : Nat) (W : World) (x x' : Option Addr) (c c' : Nat), Ls W x (ss.getD r ([], [])).2 → Ls W x' (ss.getD r ([], [])).2 → Calls Try.prog 34 #[.slice x (ss.getD r ([], [])).2.length c, .slice x' (ss.getD r ([], [])).2.length c'] W fun e w' => e = .returned (.bool true) ∧ ∃ q, w' = W.drewN q) := fun r W x x' c c' k1 k2 => lists11 x x' c c' _ W k1 k2 (hB.2 r).2
  have hl := hB.1
  have HG : Hid (∀ W r, Below w.heap.size w W → r < ss.length → ∃ b off b' off' A K A' K' C L C' L', a = some ⟨b, off, none⟩ ∧ a' = some ⟨b', off', none⟩ ∧ W.cell? ⟨b, off + r * 2, none⟩ = some (.slice A (ss.getD r ([], [])).1.length K) ∧ W.cell? ⟨b', off' + r * 2, none⟩ = some (.slice A' (ss.getD r ([], [])).1.length K') ∧ W.cell? ⟨b, off + r * 2 + 1, none⟩ = some (.slice C (ss.getD r ([], [])).2.length L) ∧ W.cell? ⟨b', off' + r * 2 + 1, none⟩ = some (.slice C' (ss.getD r ([], [])).2.length L') ∧ Ls W A (ss.getD r ([], [])).1 ∧ Ls W A' (ss.getD r ([], [])).1 ∧ Ls W C (ss.getD r ([], [])).2 ∧ Ls W C' (ss.getD r ([], [])).2) := by
    intro W r hW hr
    rcases h.below hW with h | ⟨b, off, e, hc⟩
    · rw [h] at hr; simp at hr
    rcases h'.below hW with h' | ⟨b', off', e', hc'⟩
    · rw [h'] at hr; simp at hr
    obtain ⟨A, K, C, L, k1, k2, k3, k4⟩ := hc r hr
    obtain ⟨A', K', C', L', m1, m2, m3, m4⟩ := hc' r hr
    exact ⟨b, off, b', off', A, K, A', K', C, L, C', L', e, e', k1, m1, k2, m2, k3, m3, k4, m4⟩
  clear h h' hB
  generalize ss.length = n at *
  have hne : ((n : Int) != (n : Int)) = false := by simp
  have ht : ((t : Int) != (t : Int)) = false := by simp
  have hll : ((l : Int) != (l : Int)) = false := by simp
  unfold paC
  have n0 := heap_alloc_new w (.cells #[.int .u64 t, .int .u64 l, .slice a n cap] 37)
  have hb0 := (Below.refl w.heap.size w).alloc (Nat.le_refl _) (.cells #[.int .u64 t, .int .u64 l, .slice a n cap] 37)
  have n1 := heap_alloc_new (w.alloc (.cells #[.int .u64 t, .int .u64 l, .slice a n cap] 37)) (.cells #[.int .u64 t, .int .u64 l, .slice a' n cap'] 37)
  rw [show (w.alloc (.cells #[.int .u64 t, .int .u64 l, .slice a n cap] 37)).heap.size = w.heap.size + 1 by simp] at n1
  have n0 := blk_alloc (o' := .cells #[.int .u64 t, .int .u64 l, .slice a' n cap'] 37) n0
  have hb1 := hb0.alloc hb0.size (.cells #[.int .u64 t, .int .u64 l, .slice a' n cap'] 37)
  have N0 := TW.hide n0
  have N1 := TW.hide n1
  have B0 := TW.hide hb1
  clear n0 n1 hb0 hb1
  go_enter Try.func13, Try.ntmps13
  refine wp_seq_k fun K hK => ?_
  have HK := TW.hide hK
  clear hK
  go_wp2_with fail
  refine HK.out _ _ ?_
  clear HK K
  generalize (w.alloc _).alloc _ = X at *
  obtain ⟨c0, c1, c2⟩ := cellsP3 N0.out
  obtain ⟨d0, d1, d2⟩ := cellsP3 N1.out
  go_wp2
  go_loopw [5] (fun i wr => ∃ (k q : Nat), k ≤ n ∧ i = .int .i64 k ∧ wr = X.drewN q) (fun i _ => n - (intOf i).toNat)
  case atStart => exact ⟨0, 0, Nat.zero_le _, rfl, rfl⟩
  case round =>
    obtain ⟨k, q, hk, rfl, hwq⟩ := hrel
    have HQ := TW.hide hwq
    have BQ : Hid (Below w.heap.size w wr) := by rw [hwq]; exact below_drewN B0.out q
    rw [show X.cell? ⟨w.heap.size, 2, none⟩ = wr.cell? ⟨w.heap.size, 2, none⟩ by rw [hwq]; rfl] at c2
    rw [show X.cell? ⟨w.heap.size + 1, 2, none⟩ = wr.cell? ⟨w.heap.size + 1, 2, none⟩ by rw [hwq]; rfl] at d2
    clear hwq
    by_cases hlt : k < n
    · obtain ⟨b, off, b', off', A, K, A', K', C, L, C', L', rfl, rfl, k1, k2, k3, k4, k5, k6, k7, k8⟩ := HG.out wr k BQ.out hlt
      have SM1 := TW.hide (fun X => HS1.out k (wr.drewN X) A A' K K' (k5.drewN X) (k6.drewN X))
      have SM2 := TW.hide (fun X => HS2.out k (wr.drewN X) C C' L L' (k7.drewN X) (k8.drewN X))
      have hkI : (0 : Int) ≤ (k : Int) := Int.natCast_nonneg _
      have hkJ : (k : Int) < (n : Int) := by omega
      clear k5 k6 k7 k8 HG c0 c1 d0 d1
      generalize (ss.getD k ([], [])).1.length = l1 at *
      generalize (ss.getD k ([], [])).2.length = l2 at *
      go_wp2
      go_quiet (first | (go_at_call_of 34 l1; exact Calls.quiet_of (SM1.out _)) | (go_at_call_of 34 l2; exact Calls.quiet_of (SM2.out _)))
      go_wp2
      go_roundw
      case rel => exact ⟨k + 1, q + nq, by omega, by go_num, by rw [HQ.out, World.drewN_drewN]⟩
      case measure => simp [intOf]; omega
    · obtain rfl : k = n := by omega
      go_wp2
      go_ret
      exact ⟨rfl, BQ.out⟩
end LW
end Go.Proofs.Ytcpegipojkbcoaa
