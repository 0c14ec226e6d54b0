/-
  The locks of a system; who asks for one.
-/
import Derived.Test.YtlnlkhbegdifkaaTkD
namespace Go.Proofs.Ytlnlkhbegdifkaa
open Go.RowKit
set_option linter.unusedVariables false
set_option linter.unusedSimpArgs false
namespace LW
open Mc
/-- The locks' numbers. -/
def lkL (L : Nat) : List Int := (List.range L).map (fun (k : Nat) => (k : Int))
theorem lkL_len (L : Nat) : (lkL L).length = L := by simp [lkL]
theorem lkL_get (L j : Nat) (h : j < L) : (lkL L).getD j 0 = (j : Int) := by
  rw [lkL, List.getD_eq_getElem?_getD, List.getElem?_map, List.getElem?_range h]
  rfl
theorem i64_in {xs : List Int} {n : Nat} (hn : n ≤ 64) (h : ∀ x ∈ xs, 0 ≤ x ∧ x < (n : Int)) (j : Nat) : i64 (xs.getD j 0) := by
  by_cases hj : j < xs.length
  · have := h (xs.getD j 0) (by rw [List.getD_eq_getElem?_getD, List.getElem?_eq_getElem hj]; exact List.getElem_mem hj)
    unfold i64
    omega
  · rw [List.getD_eq_getElem?_getD, List.getElem?_eq_none (by omega)]
    exact i64_0
theorem lkL_mem (L : Nat) : ∀ x ∈ lkL L, 0 ≤ x ∧ x < (L : Int) := by
  intro x hx
  simp [lkL] at hx
  obtain ⟨a, h, rfl⟩ := hx
  omega
theorem cellsY7 {w : World} {b : Nat} {t : TypeId} {x0 x1 x2 x3 x4 x5 x6 : Value} (h : w.heap[b]? = some (.cells #[x0, x1, x2, x3, x4, x5, x6] t (0, 0))) : w.cell? ⟨b, 0, none⟩ = some x0 ∧ w.cell? ⟨b, 1, none⟩ = some x1 ∧ w.cell? ⟨b, 2, none⟩ = some x2 ∧ w.cell? ⟨b, 3, none⟩ = some x3 ∧ w.cell? ⟨b, 4, none⟩ = some x4 ∧ w.cell? ⟨b, 5, none⟩ = some x5 ∧ w.cell? ⟨b, 6, none⟩ = some x6 := by
  simp [World.cell?, h]
def lcV (k : Nat) (j : Nat) : Value := .int .i64 (if j < k then (j : Int) else 0)
theorem or_lk {B : Nat} {W : World} {b L : Nat} (h : OR B W 3 b L (lcV L)) : Nr B W b L (lkL L) := by
  unfold Nr
  rw [lkL_len]
  have : (lkL L).map (Value.int .i64) = rwI L (lcV L) := by
    unfold rwI lkL
    rw [List.map_map]
    refine List.map_congr_left (fun j hj => ?_)
    show Value.int .i64 (j : Int) = lcV L j
    unfold lcV
    rw [if_pos (List.mem_range.1 hj)]
  rw [this]
  exact h
set_option maxRecDepth 100000 in
set_option maxHeartbeats 4000000 in
theorem plocks (s : Syst) (pa : Option Addr) (pc : Nat) (ra : Option Addr) (rc : Nat) (la : Option Addr) (lc : Nat) (l : List Ev) (rn : Int) (L : Nat) (w : World) (hL : s.locks = (L : Int)) (hL6 : L ≤ 64) :
    Calls Try.prog 32 #[.agg #[.slice pa s.progs.length pc, .slice ra s.rooms.length rc, .int .i64 s.groups, .int .i64 s.locks, .int .i64 s.cells, .slice la l.length lc, .int .i64 rn]] w fun e w' => ∃ b, e = .returned (.slice (some ⟨b, 0, none⟩) L L) ∧ Nr w.heap.size w' b L (lkL L) ∧ Below w.heap.size w w' := by
  obtain ⟨POST, hP⟩ : ∃ Q : Ending → World → Prop, Q = fun e w' => ∃ b, e = .returned (.slice (some ⟨b, 0, none⟩) L L) ∧ Nr w.heap.size w' b L (lkL L) ∧ Below w.heap.size w w' := ⟨_, rfl⟩
  have HP := TW.hide hP
  rw [← hP]
  clear hP
  have HLk := TW.hide hL
  clear hL
  obtain ⟨i3, hi3, hz30, hz31, hz32⟩ := info_parts' intinfo
  have hA : Below w.heap.size w (w.alloc (.cells #[.slice pa s.progs.length pc, .slice ra s.rooms.length rc, .int .i64 s.groups, .int .i64 s.locks, .int .i64 s.cells, .slice la l.length lc, .int .i64 rn] 44)) := (Below.refl _ _).alloc (Nat.le_refl _) _
  have N1 : Hid ((w.alloc (.cells #[.slice pa s.progs.length pc, .slice ra s.rooms.length rc, .int .i64 s.groups, .int .i64 s.locks, .int .i64 s.cells, .slice la l.length lc, .int .i64 rn] 44)).heap[w.heap.size]? = some (.cells #[.slice pa s.progs.length pc, .slice ra s.rooms.length rc, .int .i64 s.groups, .int .i64 s.locks, .int .i64 s.cells, .slice la l.length lc, .int .i64 rn] 44 (0, 0))) := heap_alloc_new w _
  have NB := TW.hide hA
  clear hA
  go_enter Try.func32, Try.ntmps32
  refine wp_seq_k fun K hK => ?_
  have HK := TW.hide hK
  clear hK
  go_wp2
  refine HK.out _ _ ?_
  clear HK K
  generalize w.alloc _ = X at *
  obtain ⟨s0, s1, s2, s3, s4, s5, s6⟩ := cellsY7 N1.out
  have HXs : Hid (w.heap.size ≤ X.heap.size) := NB.out.size
  refine wp_seq_k fun K hK => ?_
  have HK := TW.hide hK
  clear hK
  go_wp2_with (at_make; refine wpList_make_full _ rfl _ _ 23 (by rfl) w.heap.size 3 i3 (.int .i64 0) 1 Try.underlying23 hi3 hz30 hz31 .i64 .i64 s.locks s.locks L (by rfl) (by rfl) HLk.out HLk.out (by rw [hz32]; omega) (by unfold maxLen; omega) HXs.out ?_; intro V hown hgrow)
  rw [made_rep _ rfl, rep_rw L (lcV 0) _ (fun c => by unfold lcV; simp)] at hown
  have NBV : Hid (Below w.heap.size w V) := NB.out.grown hgrow HXs.out (by intro k h; cases h)
  clear hgrow NB N1 HXs s0 s1 s2 s3 s4 s5 s6
  go_wp2
  refine HK.out _ _ ?_
  clear HK K
  generalize hbq : X.heap.size = b
  rw [hbq] at hown
  have HO : Hid (OR w.heap.size V 3 b L (lcV 0)) := hown
  clear hown hbq
  go_wp2
  go_loopw [11] (fun i wr => ∃ k : Nat, k ≤ L ∧ i = .int .i64 (k : Int) ∧ Hid (OR w.heap.size wr 3 b L (lcV k)) ∧ Hid (Below w.heap.size w wr)) (fun i wr => L - (intOf i).toNat)
  case atStart => exact ⟨0, Nat.zero_le _, rfl, HO, NBV⟩
  case round =>
    clear HO NBV
    obtain ⟨k, hk, rfl, HO, HB⟩ := hrel
    by_cases hlt : k < L
    · have hk1 : (k : Int) < (L : Int) := by omega
      have hk0 : (0 : Int) ≤ (k : Int) := by omega
      have cz := HO.out.get k hlt
      have fz := HO.out.fz k
      have HO1 : Hid (OR w.heap.size (wr.setCell ⟨b, k, none⟩ (.int .i64 (k : Int))) 3 b L (lcV (k + 1))) := HO.out.set k _ (by unfold lcV; rw [if_pos (Nat.lt_succ_self k)]) (fun j hj => by unfold lcV; by_cases h : j < k; (rw [if_pos h, if_pos (by omega)]); (rw [if_neg h, if_neg (by omega)]))
      have HB1 : Hid (Below w.heap.size w (wr.setCell ⟨b, k, none⟩ (.int .i64 (k : Int)))) := HB.out.setCell HO.out.le _
      unfold lcV at cz
      clear HO HB
      go_wp2
      go_roundw
      case rel => exact ⟨k + 1, hlt, by go_num, HO1, HB1⟩
      case measure => simp [intOf]; omega
    · obtain rfl : k = L := by omega
      have HR : Hid (POST (.returned (.slice (some ⟨b, 0, none⟩) k k)) wr) := by show POST _ _; rw [HP.out]; exact ⟨b, rfl, or_lk HO.out, HB.out⟩
      clear HO HB
      go_wp2
      first | exact HR.out | exact ⟨rfl, HR.out⟩
end LW
end Go.Proofs.Ytlnlkhbegdifkaa
