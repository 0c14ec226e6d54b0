/-
  When lists and runs are alike.
-/
import Derived.Test.YtheifjakpdeiaaaLw1
namespace Go.Proofs.Ytheifjakpdeiaaa
open Go.RowKit
set_option linter.unusedVariables false
set_option linter.unusedSimpArgs false
namespace LW
open Mc
/-- Events, wherever they lie. -/
def ER (W : World) (a : Option Addr) (l : List Ev) : Prop := l = [] ∨ ∃ b off, a = some ⟨b, off, none⟩ ∧ ∀ j, j < l.length → W.cell? ⟨b, off + j * 5, none⟩ = some (.int .i64 (l.getD j ⟨0, 0, 0, 0, false⟩).who) ∧ W.cell? ⟨b, off + j * 5 + 1, none⟩ = some (.int .i64 (l.getD j ⟨0, 0, 0, 0, false⟩).op) ∧ W.cell? ⟨b, off + j * 5 + 2, none⟩ = some (.int .i64 (l.getD j ⟨0, 0, 0, 0, false⟩).a) ∧ W.cell? ⟨b, off + j * 5 + 3, none⟩ = some (.int .i64 (l.getD j ⟨0, 0, 0, 0, false⟩).value) ∧ W.cell? ⟨b, off + j * 5 + 4, none⟩ = some (.bool (l.getD j ⟨0, 0, 0, 0, false⟩).shut)
theorem ER.below {w w' : World} {a : Option Addr} {l : List Ev} (h : ER w a l) (hb : Below w.heap.size w w') : ER w' a l := by
  rcases h with h | ⟨b, off, rfl, hc⟩
  · exact .inl h
  · refine .inr ⟨b, off, rfl, fun j hj => ?_⟩
    obtain ⟨h1, h2, h3, h4, h5⟩ := hc j hj
    exact ⟨keepC hb h1, keepC hb h2, keepC hb h3, keepC hb h4, keepC hb h5⟩
/-- A run as it lies. -/
def RunL (W : World) (r : Int × Int × St) (cs : Array Value) : Prop := ∃ ea ec ca cc, cs = #[.int .i64 r.1, .int .i64 r.2.1, .slice ea r.2.2.evs.length ec, .int .i64 (r.2.2.rns.length : Int), .slice ca r.2.2.cells.length cc] ∧ ER W ea r.2.2.evs ∧ NR W ca r.2.2.cells
theorem RunL.below {w w' : World} {r : Int × Int × St} {cs : Array Value} (h : RunL w r cs) (hb : Below w.heap.size w w') : RunL w' r cs := by
  obtain ⟨ea, ec, ca, cc, e, h1, h2⟩ := h
  exact ⟨ea, ec, ca, cc, e, h1.below hb, h2.below hb⟩
set_option maxRecDepth 100000 in
set_option maxHeartbeats 4000000 in
theorem ints_same (a b : Option Addr) (ac bc : Nat) (xs : List Int) (w : World) (h1 : NR w a xs) (h2 : NR w b xs) (hn : xs.length ≤ 9223372036854775807) :
    Calls Try.prog 21 #[.slice a xs.length ac, .slice b xs.length bc] w fun e w' => e = .returned (.bool true) ∧ Below w.heap.size w w' := by
  have HX : Hid (∀ k W, k < xs.length → Below w.heap.size w W → ∃ b1 o1 b2 o2, a = some ⟨b1, o1, none⟩ ∧ b = some ⟨b2, o2, none⟩ ∧ W.cell? ⟨b1, o1 + k, none⟩ = some (.int .i64 (xs.getD k 0)) ∧ W.cell? ⟨b2, o2 + k, none⟩ = some (.int .i64 (xs.getD k 0))) := fun k W hk hW => by
    rcases h1 with h | ⟨b1, o1, rfl, hc1⟩
    · rw [h] at hk; simp at hk
    rcases h2 with h | ⟨b2, o2, rfl, hc2⟩
    · rw [h] at hk; simp at hk
    exact ⟨b1, o1, b2, o2, rfl, rfl, keepC hW (hc1 k hk), keepC hW (hc2 k hk)⟩
  clear h1 h2
  have kn : ((xs.length : Int) != (xs.length : Int)) = false := by simp
  generalize xs.length = n at *
  go_enter Try.func21, Try.ntmps21
  go_wp2
  go_loopw [5] (fun i wr => ∃ k : Nat, k ≤ n ∧ i = .int .i64 (k : Int) ∧ Hid (Below w.heap.size w wr)) (fun i wr => n - (intOf i).toNat)
  case atStart => exact ⟨0, Nat.zero_le _, rfl, TW.hide (Below.refl _ _)⟩
  case round =>
    obtain ⟨k, hk, rfl, HB⟩ := hrel
    by_cases hlt : k < n
    · obtain ⟨b1, o1, b2, o2, rfl, rfl, x1, x2⟩ := HX.out k wr hlt HB.out
      have hk1 : (k : Int) < (n : Int) := by omega
      have hk0 : (0 : Int) ≤ (k : Int) := by omega
      have kx : (xs.getD k 0 != xs.getD k 0) = false := by simp
      generalize xs.getD k 0 = x at *
      go_wp2
      go_quiet (fail)
      go_wp2
      go_roundw
      case rel => exact ⟨k + 1, hlt, by go_num, TW.hide (below_drewN HB.out _)⟩
      case measure => simp [intOf]; omega
    · have hk1 : ¬ (k : Int) < (n : Int) := by omega
      go_wp2
      go_ret
      exact ⟨rfl, HB.out⟩
set_option maxRecDepth 100000 in
set_option maxHeartbeats 4000000 in
theorem alike_same (r : Int × Int × St) (cs ds : Array Value) (w : World) (h1 : RunL w r cs) (h2 : RunL w r ds) (hn : r.2.2.evs.length ≤ 9223372036854775807) (hm : r.2.2.cells.length ≤ 9223372036854775807) :
    Calls Try.prog 13 #[.agg cs, .agg ds] w fun e w' => e = .returned (.bool true) ∧ Below w.heap.size w w' := by
  obtain ⟨ea, ec, ca, cc, rfl, e1, n1⟩ := h1
  obtain ⟨eb, ed, cb, cd, rfl, e2, n2⟩ := h2
  have HI : Hid (∀ W, Below w.heap.size w W → Calls Try.prog 21 #[.slice ca r.2.2.cells.length cc, .slice cb r.2.2.cells.length cd] W fun e w' => e = .returned (.bool true) ∧ Below W.heap.size W w') := fun W hW => ints_same ca cb cc cd _ W (n1.below hW) (n2.below hW) hm
  have HX : Hid (∀ k W, k < r.2.2.evs.length → Below w.heap.size w W → ∃ b1 o1 b2 o2 q0 q1 q2 q3 q4, ea = some ⟨b1, o1, none⟩ ∧ eb = some ⟨b2, o2, none⟩ ∧ W.cell? ⟨b1, o1 + k * 5, none⟩ = some (.int .i64 q0) ∧ W.cell? ⟨b1, o1 + k * 5 + 1, none⟩ = some (.int .i64 q1) ∧ W.cell? ⟨b1, o1 + k * 5 + 2, none⟩ = some (.int .i64 q2) ∧ W.cell? ⟨b1, o1 + k * 5 + 3, none⟩ = some (.int .i64 q3) ∧ W.cell? ⟨b1, o1 + k * 5 + 4, none⟩ = some (.bool q4) ∧ W.cell? ⟨b2, o2 + k * 5, none⟩ = some (.int .i64 q0) ∧ W.cell? ⟨b2, o2 + k * 5 + 1, none⟩ = some (.int .i64 q1) ∧ W.cell? ⟨b2, o2 + k * 5 + 2, none⟩ = some (.int .i64 q2) ∧ W.cell? ⟨b2, o2 + k * 5 + 3, none⟩ = some (.int .i64 q3) ∧ W.cell? ⟨b2, o2 + k * 5 + 4, none⟩ = some (.bool q4)) := fun k W hk hW => by
    rcases e1 with h | ⟨b1, o1, rfl, hc1⟩
    · rw [h] at hk; simp at hk
    rcases e2 with h | ⟨b2, o2, rfl, hc2⟩
    · rw [h] at hk; simp at hk
    obtain ⟨x0, x1, x2, x3, x4⟩ := hc1 k hk
    obtain ⟨y0, y1, y2, y3, y4⟩ := hc2 k hk
    exact ⟨b1, o1, b2, o2, _, _, _, _, _, rfl, rfl, keepC hW x0, keepC hW x1, keepC hW x2, keepC hW x3, keepC hW x4, keepC hW y0, keepC hW y1, keepC hW y2, keepC hW y3, keepC hW y4⟩
  clear e1 e2 n1 n2
  generalize r.2.2.cells.length = M at *
  generalize r.2.2.evs.length = N at *
  generalize (r.2.2.rns.length : Int) = rr at *
  generalize r.2.1 = fl at *
  generalize r.1 = en at *
  clear r
  have hA : Below w.heap.size w ((w.alloc (.cells #[.int .i64 en, .int .i64 fl, .slice ea N ec, .int .i64 rr, .slice ca M cc] 32)).alloc (.cells #[.int .i64 en, .int .i64 fl, .slice eb N ed, .int .i64 rr, .slice cb M cd] 32)) := ((Below.refl _ _).alloc (Nat.le_refl _) _).alloc (by simp) _
  have N1 : Hid (((w.alloc (.cells #[.int .i64 en, .int .i64 fl, .slice ea N ec, .int .i64 rr, .slice ca M cc] 32)).alloc (.cells #[.int .i64 en, .int .i64 fl, .slice eb N ed, .int .i64 rr, .slice cb M cd] 32)).heap[w.heap.size]? = some (.cells #[.int .i64 en, .int .i64 fl, .slice ea N ec, .int .i64 rr, .slice ca M cc] 32 (0, 0))) := blk_alloc (heap_alloc_new w _)
  have N2 : Hid (((w.alloc (.cells #[.int .i64 en, .int .i64 fl, .slice ea N ec, .int .i64 rr, .slice ca M cc] 32)).alloc (.cells #[.int .i64 en, .int .i64 fl, .slice eb N ed, .int .i64 rr, .slice cb M cd] 32)).heap[w.heap.size + 1]? = some (.cells #[.int .i64 en, .int .i64 fl, .slice eb N ed, .int .i64 rr, .slice cb M cd] 32 (0, 0))) := by
    have h1 := heap_alloc_new (w.alloc (.cells #[.int .i64 en, .int .i64 fl, .slice ea N ec, .int .i64 rr, .slice ca M cc] 32)) (.cells #[.int .i64 en, .int .i64 fl, .slice eb N ed, .int .i64 rr, .slice cb M cd] 32)
    have h2 : (w.alloc (.cells #[.int .i64 en, .int .i64 fl, .slice ea N ec, .int .i64 rr, .slice ca M cc] 32)).heap.size = w.heap.size + 1 := by simp
    rw [h2] at h1
    exact h1
  have HBV := TW.hide hA
  clear hA
  have k1 : (en != en) = false := by simp
  have k2 : (fl != fl) = false := by simp
  have k3 : (rr != rr) = false := by simp
  have k4 : ((N : Int) != (N : Int)) = false := by simp
  go_enter Try.func13, Try.ntmps13
  refine wp_seq_k fun K hK => ?_
  have HK := TW.hide hK
  clear hK
  go_wp2
  refine HK.out _ _ ?_
  clear HK K
  generalize World.alloc _ _ = V at *
  generalize w.heap.size + 1 = b2_ at *
  obtain ⟨s0, s1, s2, s3, s4⟩ := cellsY5 N1.out
  obtain ⟨t0, t1, t2, t3, t4⟩ := cellsY5 N2.out
  go_wp2_with fail
  refine (HI.out _ HBV.out).mono ?_
  rintro e1 w1 ⟨rfl, hb⟩
  have HB1 : Hid (Below w.heap.size w w1) := HBV.out.trans (hb.mono HBV.out.size)
  have N1_ := TW.hide (blk_keep N1.out hb)
  have N2_ := TW.hide (blk_keep N2.out hb)
  clear s0 s1 s2 s3 s4 t0 t1 t2 t3 t4 hb HBV N1 N2
  obtain ⟨s0, s1, s2, s3, s4⟩ := cellsY5 N1_.out
  obtain ⟨t0, t1, t2, t3, t4⟩ := cellsY5 N2_.out
  go_wp2
  go_loopw [5] (fun i wr => ∃ k : Nat, k ≤ N ∧ i = .int .i64 (k : Int) ∧ Hid (Below w1.heap.size w1 wr)) (fun i wr => N - (intOf i).toNat)
  case atStart => exact ⟨0, Nat.zero_le _, rfl, TW.hide (Below.refl _ _)⟩
  case round =>
    obtain ⟨k, hk, rfl, HB⟩ := hrel
    have s2 := keepC HB.out s2
    have t2 := keepC HB.out t2
    by_cases hlt : k < N
    · obtain ⟨b1, o1, b2, o2, q0, q1, q2, q3, q4, rfl, rfl, x0, x1, x2, x3, x4, y0, y1, y2, y3, y4⟩ := HX.out k wr hlt (HB1.out.trans (HB.out.mono HB1.out.size))
      have hk1 : (k : Int) < (N : Int) := by omega
      have hk0 : (0 : Int) ≤ (k : Int) := by omega
      go_wp2
      go_quiet (fail)
      go_wp2
      go_roundw
      case rel => exact ⟨k + 1, hlt, by go_num, TW.hide (below_drewN HB.out _)⟩
      case measure => simp [intOf]; omega
    · have hk1 : ¬ (k : Int) < (N : Int) := by omega
      go_wp2
      go_ret
      exact ⟨rfl, HB1.out.trans (HB.out.mono HB1.out.size)⟩
end LW
end Go.Proofs.Ytheifjakpdeiaaa
