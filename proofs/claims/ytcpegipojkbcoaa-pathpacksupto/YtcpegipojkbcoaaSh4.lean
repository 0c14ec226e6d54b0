/-
  The iterator of a tree's rows: what it hands over, one by one.
-/
import Derived.RangeFuncNested
import Derived.RangeFuncBound
import Derived.RangeFuncCalls
import Derived.RangeFuncLeaves
import Derived.RangeFuncBox
import Derived.Shelf.Abstract
import Derived.Shelf.RegionOpen
import Derived.WalkKit
import Derived.OwnWalkIn
import Derived.TacticsInMore
import Derived.LoopNIn
import Derived.LoopIn
import Derived.Test.YtcpegipojkbcoaaSh3
namespace Go.Proofs.Ytcpegipojkbcoaa
open Go.RowKit Go.Shelf
attribute [local go_sem] Oper.semAt_some
set_option linter.unusedVariables false
set_option linter.unusedSimpArgs false
namespace LW
open Words
/-- The rows above a row of n nodes, from row r on; k: how many there may be. -/
def ab (f dp : Int) : Nat → Nat → Nat → List Nat
  | 0, _, _ => []
  | k + 1, r, n => nx f dp r n :: if nx f dp r n = 1 then [] else ab f dp k (r + 1) (nx f dp r n)
/-- A tree's rows. -/
def roL (T : Tr) (n : Nat) : List Nat := lv T n :: ab T.f T.dp (T.dp.toNat - 1) 1 (lv T n)
/-- The rows with their numbers. -/
def en : Nat → List Nat → List (Nat × Nat)
  | _, [] => []
  | r, x :: l => (r, x) :: en (r + 1) l
def enc (x : Nat × Nat) : Array Value := #[.int .i64 x.1, .int .u64 x.2]
theorem nx_lt {f dp r : Int} {n : Nat} (hf : f = 0 ∨ (2 ≤ f ∧ f ≤ 255)) (hn : n < 18446744073709551616) : nx f dp r n < 18446744073709551616 := by
  unfold nx
  split
  · omega
  · have := up_le n f.toNat (by omega)
    omega
/-- What stands behind the iterator. -/
def RPost (xs : List (Nat × Nat)) (J Jx : List (Nat × Nat) → World → Prop) (e : Ending) (W' : World) : Prop :=
  (∃ v, e = .returned v) ∧ ((∃ ys, ys = xs ∧ J ys W') ∨ (∃ pre, pre <+: xs ∧ Jx pre W'))
set_option maxRecDepth 100000 in
set_option maxHeartbeats 2000000 in
theorem rows1 (l g : Nat) (T : Tr) (n m k : Nat) (hk : 3 ≤ k) (hf : T.f = 0 ∨ (2 ≤ T.f ∧ T.f ≤ 255)) (hd : 2 ≤ T.dp ∧ T.dp ≤ 255) (hm : m < 18446744073709551616) (J Jx : List (Nat × Nat) → World → Prop)
    (hY : ∀ pre x W, J pre W → pre.length < 256 → YieldAt Fence.wide (k - 1) Try.prog l (enc x) W fun e W' =>
      (e = .returned (.bool true) ∧ J (pre ++ [x]) W' ∧ W'.heap[g]? = W.heap[g]?) ∨ (e = .returned (.bool false) ∧ Jx (pre ++ [x]) W'))
    (hJ : ∀ pre W W', J pre W → Below W.heap.size W W' → J pre W')
    (W : World) (hW : W.heap[g]? = some (.cells (lyC T n m) 98 (0, 0))) (h0 : J [] W) :
    CallsIn Fence.wide k Try.prog 60 #[.func (.yield l) #[] #[], .pointer (some ⟨g, 0, none⟩)] W (RPost (en 0 (m :: ab T.f T.dp (T.dp.toNat - 1) 1 m)) J Jx) := by
  have h1 : 1 ≤ k := by omega
  refine callsIn_of_wp Try.func60 rfl trivial ?_ rfl
  simp only [Try.ntmps60, List.size_toArray, List.length_cons, List.length_nil, Nat.reduceAdd, Nat.reduceSub, Array.replicate_succ, Array.replicate_zero, List.push_toArray, List.append_toArray, List.nil_append, List.cons_append]
  have hW' := hW
  unfold lyC at hW'
  obtain ⟨c0, c1, c2, c3, c4, c5, c6, c7, c8, c9, c10, _⟩ := cells11 hW'
  obtain ⟨fn, tmps, assign, body, hy, hR⟩ := hY [] (0, m) W h0 (by simp)
  dsimp only [enc] at hy
  rw [show ((0 : Nat) : Int) = 0 from rfl] at hy
  gi_wp2
  refine hR.mono ?_
  rintro e W3 (⟨rfl, hJ3, hk3⟩ | ⟨rfl, hJx3⟩)
  · have n3 : W3.heap[g]? = some (.cells (lyC T n m) 98 (0, 0)) := hk3.trans hW
    clear c0 c1 c2 c3 c4 c5 c6 c7 c8 c9 c10 hy hR hW hW'
    gi_wp2
    gi_loopw [3, 4] (fun v r wr => ∃ (pre : List (Nat × Nat)) (q i : Nat), v = .int .u64 q ∧ r = .int .i64 i ∧ 1 ≤ i ∧ (i : Int) ≤ T.dp ∧ q < 18446744073709551616 ∧ pre.length = i ∧ en 0 (m :: ab T.f T.dp (T.dp.toNat - 1) 1 m) = pre ++ en i (ab T.f T.dp (T.dp.toNat - i) i q) ∧ wr.heap[g]? = some (.cells (lyC T n m) 98 (0, 0)) ∧ J pre wr)
      (fun v r wr => T.dp.toNat - (intOf r).toNat)
    case atStart =>
      exact ⟨[(0, m)], m, 1, rfl, rfl, by omega, by omega, hm, rfl, rfl, n3, hJ3⟩
    case round =>
      obtain ⟨pre, q, i, rfl, rfl, hi1, hi2, hq, hpl, hx, hn, hJs⟩ := hrel
      have hW' := hn
      unfold lyC at hW'
      obtain ⟨c0, c1, c2, c3, c4, c5, c6, c7, c8, c9, c10, _⟩ := cells11 hW'
      clear hW'
      by_cases hlt : (i : Int) < T.dp
      · have hab : ab T.f T.dp (T.dp.toNat - i) i q = nx T.f T.dp i q :: if nx T.f T.dp i q = 1 then [] else ab T.f T.dp (T.dp.toNat - (i + 1)) (i + 1) (nx T.f T.dp i q) := by
          rw [show T.dp.toNat - i = (T.dp.toNat - (i + 1)) + 1 by omega]
          rfl
        have hnl := nx_lt (dp := T.dp) (r := (i : Int)) hf hq
        have HA := TW.hide (fun w => above T n m (i : Int) q hf hd hq w)
        unfold lyC at HA
        generalize nx T.f T.dp i q = p at *
        have hN := TW.hide hn
        clear hn
        gi_wp2_with fail
        refine ⟨trivial, ?_⟩
        gi_at_call 51
        refine (callsIn_wide.2 (HA.out _)).mono ?_
        rintro e w4 ⟨rfl, hb4⟩
        clear HA c0 c1 c2 c3 c4 c5 c6 c7 c8 c9 c10
        have n4 := blk_keep hN.out hb4
        have hJ4 := hJ _ _ _ hJs hb4
        have N4 := TW.hide n4
        clear hN n4
        obtain ⟨fn, tmps, assign, body, hy, hR⟩ := hY pre (i, p) w4 hJ4 (by omega)
        dsimp only [enc] at hy
        gi_wp2
        refine hR.mono ?_
        rintro e W5 (⟨rfl, hJ5, hk5⟩ | ⟨rfl, hJx5⟩)
        · have n5 : W5.heap[g]? = some (.cells (lyC T n m) 98 (0, 0)) := hk5.trans N4.out
          have N5 := TW.hide n5
          clear n5 N4
          by_cases hp : p = 1
          · subst hp
            gi_wp2
            refine bodyPost_ret (results_none rfl _ _ _) rfl ?_
            exact ⟨⟨_, rfl⟩, .inl ⟨pre ++ [(i, 1)], by rw [hx, hab]; simp [en], hJ5⟩⟩
          · have hp' : ((p : Int) == 1) = false := by simp; omega
            have hwr : IntKind.i64.wrap ((i : Int) + 1) = ((i + 1 : Nat) : Int) := by rw [IntKind.wrap_i64]; omega
            rw [if_neg hp] at hab
            gi_wp2
            go_roundw
            case rel => exact ⟨pre ++ [(i, p)], p, i + 1, rfl, rfl, by omega, by omega, hnl, by simp [hpl], by rw [hx, hab]; simp [en], N5.out, hJ5⟩
            case measure => simp [intOf]; omega
        · gi_wp2
          refine bodyPost_ret (results_none rfl _ _ _) rfl ?_
          exact ⟨⟨_, rfl⟩, .inr ⟨pre ++ [(i, p)], by rw [hx, hab]; exact ⟨en (i + 1) (if p = 1 then [] else ab T.f T.dp (T.dp.toNat - (i + 1)) (i + 1) p), by simp [en]⟩, hJx5⟩⟩
      · have hab : ab T.f T.dp (T.dp.toNat - i) i q = [] := by
          rw [show T.dp.toNat - i = 0 by omega]
          rfl
        gi_wp2
        go_end0
        exact ⟨⟨_, rfl⟩, .inl ⟨pre, by simp [ab, en], hJs⟩⟩
  · gi_wp2
    refine bodyPost_ret (results_none rfl _ _ _) rfl ?_
    exact ⟨⟨_, rfl⟩, .inr ⟨[(0, m)], ⟨en 1 (ab T.f T.dp (T.dp.toNat - 1) 1 m), rfl⟩, hJx3⟩⟩
theorem ab_len (f dp : Int) : ∀ k r n, (ab f dp k r n).length ≤ k
  | 0, _, _ => Nat.le_refl _
  | k + 1, r, n => by
    unfold ab
    split
    · simp
    · have := ab_len f dp k (r + 1) (nx f dp r n)
      simp only [List.length_cons]
      omega
theorem en_len : ∀ (l : List Nat) (r : Nat), (en r l).length = l.length
  | [], _ => rfl
  | _ :: l, r => by simp [en, en_len l (r + 1)]
set_option maxHeartbeats 1000000 in
/-- The iterator's value. -/
theorem rows_ (T : Tr) (n m : Nat) (w : World) : Calls Try.prog 59 #[.agg (lyC T n m)] w fun e w' => e = .returned (.func (.func 60) #[] #[.pointer (some ⟨w.heap.size, 0, none⟩)]) ∧ w' = w.alloc (.cells (lyC T n m) 98) := by
  unfold lyC
  have hmf : ∀ (fn : Fn) (first cap : Array Value) (w : World), (Instr.makeFunc fn first cap).run Try.prog w = .ok (.func fn first cap) w := fun _ _ _ _ => rfl
  go_enter Try.func59, Try.ntmps59
  go_wp2
  go_ret
  exact ⟨rfl, rfl⟩
theorem rows_stops (T : Tr) (n m k g : Nat) (hk : 3 ≤ k) (hf : T.f = 0 ∨ (2 ≤ T.f ∧ T.f ≤ 255)) (hd : 2 ≤ T.dp ∧ T.dp ≤ 255) (hm : m < 18446744073709551616) (w : World) (hw : w.heap[g]? = some (.cells (lyC T n m) 98 (0, 0))) :
    SeqStopsK Fence.wide k Try.prog 60 #[.pointer (some ⟨g, 0, none⟩)] enc (fun A B => B.heap[g]? = A.heap[g]?) (fun ys => ys = en 0 (m :: ab T.f T.dp (T.dp.toNat - 1) 1 m)) (fun pre => pre <+: en 0 (m :: ab T.f T.dp (T.dp.toNat - 1) 1 m)) 256 w := fun l J Jx W hW hJ _ hY h0 =>
  rows1 l g T n m k hk hf hd hm J Jx hY (fun pre A B h hb => hJ pre A B none h ⟨hb.os, hb.tape, hb.output, hb.size, fun k hk _ => hb.block k hk⟩ (by simp)) W ((hW.block g (blk_lt hw)).trans hw) h0
end LW
end Go.Proofs.Ytcpegipojkbcoaa
