/-
  The program's Held and Guards.
-/
import Derived.Test.YtlnlkhbegdifkaaTkH
namespace Go.Proofs.Ytlnlkhbegdifkaa
open Go.RowKit
set_option linter.unusedVariables false
set_option linter.unusedSimpArgs false
namespace LW
open Mc
theorem nr_nr {B : Nat} {W : World} {b cap : Nat} {xs : List Int} (h : Nr B W b cap xs) : NR W (some ⟨b, 0, none⟩) xs := .inr ⟨b, 0, rfl, fun j hj => by rw [Nat.zero_add]; exact h.get j hj⟩
/-- What Held answers: the error; the locks. -/
def hdE (s : Syst) (l : List Ev) (i : Int) : Int := if (Tr.vR s l).2.2 = 0 then (if 0 ≤ i ∧ i < (l.length : Int) then 0 else 1) else (Tr.vR s l).2.2
def hdA (s : Syst) (l : List Ev) (i : Int) : List Int := if hdE s l i = 0 then hoL s.locks.toNat (l.take i.toNat) (Tr.ev l i.toNat).who else []
/-- What Guards answers: the error; the locks. -/
def gdE (s : Syst) (l : List Ev) (c : Int) : Int := if (Tr.vR s l).2.2 = 0 then (if 0 ≤ c ∧ c < s.cells then 0 else 1) else (Tr.vR s l).2.2
def gdA (s : Syst) (l : List Ev) (c : Int) : List Int := if gdE s l c = 0 then (if guT l c l.length then guL s.locks.toNat l c l.length else []) else []
set_option maxRecDepth 100000 in
set_option maxHeartbeats 4000000 in
theorem phas (s : Syst) (pa : Option Addr) (pc : Nat) (ra : Option Addr) (rc : Nat) (la : Option Addr) (lc : Nat) (l : List Ev) (rn : Int) (i : Int) (w : World) : Calls Try.prog 18 #[.agg #[.slice pa s.progs.length pc, .slice ra s.rooms.length rc, .int .i64 s.groups, .int .i64 s.locks, .int .i64 s.cells, .slice la l.length lc, .int .i64 rn], .int .i64 i] w fun e w' => e = .returned (.bool (decide (0 ≤ i ∧ i < (l.length : Int)))) ∧ Below w.heap.size w w' := by
  have hA : Below w.heap.size w (w.alloc (.cells #[.slice pa s.progs.length pc, .slice ra s.rooms.length rc, .int .i64 s.groups, .int .i64 s.locks, .int .i64 s.cells, .slice la l.length lc, .int .i64 rn] 44)) := (Below.refl _ _).alloc (Nat.le_refl _) _
  have N1 : Hid ((w.alloc (.cells #[.slice pa s.progs.length pc, .slice ra s.rooms.length rc, .int .i64 s.groups, .int .i64 s.locks, .int .i64 s.cells, .slice la l.length lc, .int .i64 rn] 44)).heap[w.heap.size]? = some (.cells #[.slice pa s.progs.length pc, .slice ra s.rooms.length rc, .int .i64 s.groups, .int .i64 s.locks, .int .i64 s.cells, .slice la l.length lc, .int .i64 rn] 44 (0, 0))) := heap_alloc_new w _
  have NB := TW.hide hA
  clear hA
  go_enter Try.func18, Try.ntmps18
  refine wp_seq_k fun K hK => ?_
  have HK := TW.hide hK
  clear hK
  go_wp2
  refine HK.out _ _ ?_
  clear HK K
  generalize w.alloc _ = X at *
  obtain ⟨q0, q1, q2, q3, q4, q5, q6⟩ := cellsY7 N1.out
  by_cases h1 : 0 ≤ i
  · by_cases h2 : i < (l.length : Int)
    · go_wp2
      go_ret
      exact ⟨by simp [h1, h2], NB.out⟩
    · go_wp2
      go_ret
      exact ⟨by simp [h1, h2], NB.out⟩
  · go_wp2
    go_ret
    exact ⟨by simp; omega, NB.out⟩
set_option maxRecDepth 100000 in
set_option maxHeartbeats 4000000 in
theorem ptheld (s : Syst) (pa : Option Addr) (pc : Nat) (ra : Option Addr) (rc : Nat) (la : Option Addr) (lc : Nat) (l : List Ev) (i : Int) (w : World) (hs : SyI w s pa ra) (hl : EvI w la lc l) :
    Calls Try.prog 10 #[.agg #[.slice pa s.progs.length pc, .slice ra s.rooms.length rc, .int .i64 s.groups, .int .i64 s.locks, .int .i64 s.cells], .slice la l.length lc, .int .i64 i] w fun e w' => ∃ a c, e = .returned (.tuple #[.slice a (hdA s l i).length c, .int .i64 (hdE s l i)]) ∧ NR w' a (hdA s l i) ∧ Below w.heap.size w w' := by
  obtain ⟨POST, hP⟩ : ∃ Q : Ending → World → Prop, Q = fun e w' => ∃ a c, e = .returned (.tuple #[.slice a (hdA s l i).length c, .int .i64 (hdE s l i)]) ∧ NR w' a (hdA s l i) ∧ Below w.heap.size w w' := ⟨_, rfl⟩
  obtain ⟨va, vn, ve, hV⟩ : ∃ a n e, Tr.vR s l = (a, n, e) := ⟨_, _, _, rfl⟩
  have HRd : Hid (∀ W, Below w.heap.size w W → Calls Try.prog 15 #[.agg #[.slice pa s.progs.length pc, .slice ra s.rooms.length rc, .int .i64 s.groups, .int .i64 s.locks, .int .i64 s.cells], .slice la l.length lc] W fun e w' => ∃ hc, e = .returned (.tuple #[.agg hc, .int .i64 va, .int .i64 ve]) ∧ (ve = 0 → hc = #[.slice pa s.progs.length pc, .slice ra s.rooms.length rc, .int .i64 s.groups, .int .i64 s.locks, .int .i64 s.cells, .slice la l.length lc, .int .i64 (Tr.rnC l : Int)]) ∧ (ve ≠ 0 → hc = #[.slice none 0 0, .slice none 0 0, .int .i64 0, .int .i64 0, .int .i64 0, .slice none 0 0, .int .i64 0]) ∧ Below W.heap.size W w') := fun W hW => (pread s pa pc ra rc la lc l W (hs.below hW) (hl.below hW)).mono (fun e w' h => by unfold ReaQ at h; rw [hV] at h; exact h)
  have HOk : Hid (ve = 0 → Ok s ∧ l.length ≤ 40000 ∧ Tr.Gd s l l.length) := fun h => by
    have h2 := Tr.vR_ok (s := s) (l := l) (by rw [hV]; exact h)
    exact ⟨h2.1, h2.2.1, h2.2.2.1⟩
  have HPe : Hid (ve ≠ 0 → ∀ W, Below w.heap.size w W → POST (.returned (.tuple #[.slice none 0 0, .int .i64 ve])) W) := fun h W hW => by
    rw [hP]
    have h1 : hdE s l i = ve := by unfold hdE; rw [hV]; exact if_neg h
    have h2 : hdA s l i = [] := by unfold hdA; rw [h1, if_neg h]
    rw [h1, h2]
    exact ⟨none, 0, rfl, .inl rfl, hW⟩
  have HPa : Hid (ve = 0 → ¬ (0 ≤ i ∧ i < (l.length : Int)) → ∀ W, Below w.heap.size w W → POST (.returned (.tuple #[.slice none 0 0, .int .i64 1])) W) := fun h hi W hW => by
    rw [hP]
    have h1 : hdE s l i = 1 := by unfold hdE; rw [hV]; dsimp only; rw [if_pos h, if_neg hi]
    have h2 : hdA s l i = [] := by unfold hdA; rw [h1]; exact if_neg (by decide)
    rw [h1, h2]
    exact ⟨none, 0, rfl, .inl rfl, hW⟩
  have HPo : Hid (ve = 0 → ∀ (k b c : Nat), i = (k : Int) → k < l.length → ∀ W, Nr w.heap.size W b c (hoL s.locks.toNat (l.take k) (Tr.ev l k).who) → Below w.heap.size w W → POST (.returned (.tuple #[.slice (some ⟨b, 0, none⟩) (hoL s.locks.toNat (l.take k) (Tr.ev l k).who).length c, .int .i64 0])) W) := fun h k b c e hk W hN hW => by
    rw [hP]
    have h1 : hdE s l i = 0 := by unfold hdE; rw [hV]; dsimp only; rw [if_pos h, if_pos (by omega)]
    have h2 : hdA s l i = hoL s.locks.toNat (l.take k) (Tr.ev l k).who := by unfold hdA; rw [h1, if_pos rfl, e]; rfl
    rw [h1, h2]
    exact ⟨_, c, rfl, nr_nr hN, hW⟩
  rw [← hP]
  have HEw := TW.hide hl
  clear hP hs hl hV
  have hA : Below w.heap.size w (w.alloc (.cells #[.slice pa s.progs.length pc, .slice ra s.rooms.length rc, .int .i64 s.groups, .int .i64 s.locks, .int .i64 s.cells] 25)) := (Below.refl _ _).alloc (Nat.le_refl _) _
  have N1 : Hid ((w.alloc (.cells #[.slice pa s.progs.length pc, .slice ra s.rooms.length rc, .int .i64 s.groups, .int .i64 s.locks, .int .i64 s.cells] 25)).heap[w.heap.size]? = some (.cells #[.slice pa s.progs.length pc, .slice ra s.rooms.length rc, .int .i64 s.groups, .int .i64 s.locks, .int .i64 s.cells] 25 (0, 0))) := heap_alloc_new w _
  have NB := TW.hide hA
  clear hA
  go_enter Try.func10, Try.ntmps10
  refine wp_seq_k fun K hK => ?_
  have HK := TW.hide hK
  clear hK
  go_wp2
  refine HK.out _ _ ?_
  clear HK K
  generalize w.alloc _ = X at *
  obtain ⟨s0, s1, s2, s3, s4⟩ := cellsY5 N1.out
  go_wp2_with fail
  refine (HRd.out X NB.out).mono ?_
  rintro e1 W1 ⟨hc, rfl, h1, h2, hb⟩
  have NB1 : Hid (Below w.heap.size w W1) := NB.out.trans (hb.mono NB.out.size)
  have NS := TW.hide (blk_keep N1.out hb)
  clear hb NB N1 s0 s1 s2 s3 s4 HRd
  by_cases he : ve = 0
  · obtain rfl := h1 he
    obtain ⟨ho, hn, hg⟩ := HOk.out he
    have NB2 : Hid (Below w.heap.size w ((W1.alloc (.cells #[.slice none 0 0, .slice none 0 0, .int .i64 0, .int .i64 0, .int .i64 0, .slice none 0 0, .int .i64 0] 44)).setRow W1.heap.size #[.slice pa s.progs.length pc, .slice ra s.rooms.length rc, .int .i64 s.groups, .int .i64 s.locks, .int .i64 s.cells, .slice la l.length lc, .int .i64 (Tr.rnC l : Int)])) := below_setRow (NB1.out.alloc NB1.out.size _) NB1.out.size
    have hA_ : Below W1.heap.size W1 ((W1.alloc (.cells #[.slice none 0 0, .slice none 0 0, .int .i64 0, .int .i64 0, .int .i64 0, .slice none 0 0, .int .i64 0] 44)).setRow W1.heap.size #[.slice pa s.progs.length pc, .slice ra s.rooms.length rc, .int .i64 s.groups, .int .i64 s.locks, .int .i64 s.cells, .slice la l.length lc, .int .i64 (Tr.rnC l : Int)]) := below_setRow ((Below.refl _ _).alloc (Nat.le_refl _) _) (Nat.le_refl _)
    have NS2 := TW.hide (blk_keep NS.out hA_)
    have N2 : Hid (((W1.alloc (.cells #[.slice none 0 0, .slice none 0 0, .int .i64 0, .int .i64 0, .int .i64 0, .slice none 0 0, .int .i64 0] 44)).setRow W1.heap.size #[.slice pa s.progs.length pc, .slice ra s.rooms.length rc, .int .i64 s.groups, .int .i64 s.locks, .int .i64 s.cells, .slice la l.length lc, .int .i64 (Tr.rnC l : Int)]).heap[W1.heap.size]? = some (.cells #[.slice pa s.progs.length pc, .slice ra s.rooms.length rc, .int .i64 s.groups, .int .i64 s.locks, .int .i64 s.cells, .slice la l.length lc, .int .i64 (Tr.rnC l : Int)] 44 (0, 0))) := setRow_heap _ _ _ _ _ _ (heap_alloc_new W1 _)
    clear hA_ NS
    have hL : s.locks = (s.locks.toNat : Int) := by have := ho.l1; omega
    have hL6 : s.locks.toNat ≤ 64 := by have := ho.l1; omega
    have HHs : Hid (∀ W, Calls Try.prog 18 #[.agg #[.slice pa s.progs.length pc, .slice ra s.rooms.length rc, .int .i64 s.groups, .int .i64 s.locks, .int .i64 s.cells, .slice la l.length lc, .int .i64 (Tr.rnC l : Int)], .int .i64 i] W fun e w' => e = .returned (.bool (decide (0 ≤ i ∧ i < (l.length : Int)))) ∧ Below W.heap.size W w') := fun W => phas s pa pc ra rc la lc l _ i W
    have HHe : Hid (∀ k : Nat, i = (k : Int) → k < l.length → ∀ W, Below w.heap.size w W → Calls Try.prog 19 #[.agg #[.slice pa s.progs.length pc, .slice ra s.rooms.length rc, .int .i64 s.groups, .int .i64 s.locks, .int .i64 s.cells, .slice la l.length lc, .int .i64 (Tr.rnC l : Int)], .int .i64 (k : Int)] W fun e w' => ∃ b, e = .returned (.slice (some ⟨b, 0, none⟩) (hoL s.locks.toNat (l.take k) (Tr.ev l k).who).length s.locks.toNat) ∧ Nr W.heap.size w' b s.locks.toNat (hoL s.locks.toNat (l.take k) (Tr.ev l k).who) ∧ Below W.heap.size W w') := fun k _ hk W hW => pheldAt s pa pc ra rc la lc l _ s.locks.toNat k W (HEw.out.below hW) hL hL6 hk hn
    have HPa' := TW.hide (HPa.out he)
    have HPo' := TW.hide (HPo.out he)
    subst he
    clear h1 h2 ho hn hg hL hL6 HOk HPe HPa HPo HEw
    go_wp2_with (first | (refine wpList_store_row (by rfl) 44 _ _ (by rfl) W1.heap.size #[.slice pa s.progs.length pc, .slice ra s.rooms.length rc, .int .i64 s.groups, .int .i64 s.locks, .int .i64 s.cells, .slice la l.length lc, .int .i64 (Tr.rnC l : Int)] (by rfl) (by rfl) 44 _ (heap_alloc_new W1 _) (by kernel_rfl) (by rfl) (by simp [Value.oneCell']) ?_; generalize World.setRow _ _ _ = X2 at *; generalize W1.heap.size = g2 at *; obtain ⟨q0, q1, q2, q3, q4, q5, q6⟩ := cellsY7 N2.out; obtain ⟨r0, r1, r2, r3, r4⟩ := cellsY5 NS2.out) | fail)
    refine (HHs.out X2).mono ?_
    rintro e3 W3 ⟨rfl, hb⟩
    have NB3 : Hid (Below w.heap.size w W3) := NB2.out.trans (hb.mono NB2.out.size)
    have N3 := TW.hide (blk_keep N2.out hb)
    clear hb q0 q1 q2 q3 q4 q5 q6 r0 r1 r2 r3 r4 N2 NS2 NB2 HHs
    by_cases hi : 0 ≤ i ∧ i < (l.length : Int)
    · obtain ⟨k, rfl⟩ : ∃ k : Nat, i = (k : Int) := ⟨i.toNat, by omega⟩
      have hk : k < l.length := by omega
      have HH := TW.hide (HHe.out k rfl hk W3 NB3.out)
      have HPk := TW.hide (fun b c => HPo'.out k b c rfl)
      have HKl := TW.hide hk
      have kd : (decide ((0 : Int) ≤ (k : Int) ∧ (k : Int) < (l.length : Int))) = true := decide_eq_true hi
      obtain ⟨q0, q1, q2, q3, q4, q5, q6⟩ := cellsY7 N3.out
      rw [kd]
      clear hi hk kd HHe HPo' HPa'
      go_wp2_with fail
      refine HH.out.mono ?_
      rintro e4 W4 ⟨b, rfl, hN, hb⟩
      have HR := TW.hide (HPk.out b s.locks.toNat HKl.out W4 (own_base hN NB3.out.size) (NB3.out.trans (hb.mono NB3.out.size)))
      clear hN hb
      go_wp2
      first | exact HR.out | exact ⟨rfl, HR.out⟩
    · have kd : (decide (0 ≤ i ∧ i < (l.length : Int))) = false := decide_eq_false hi
      have HR := TW.hide (HPa'.out hi W3 NB3.out)
      rw [kd]
      clear hi kd HHe HPo' HPa'
      go_wp2
      first | exact HR.out | exact ⟨rfl, HR.out⟩
  · obtain rfl := h2 he
    have NB2 : Hid (Below w.heap.size w ((W1.alloc (.cells #[.slice none 0 0, .slice none 0 0, .int .i64 0, .int .i64 0, .int .i64 0, .slice none 0 0, .int .i64 0] 44)).setRow W1.heap.size #[.slice none 0 0, .slice none 0 0, .int .i64 0, .int .i64 0, .int .i64 0, .slice none 0 0, .int .i64 0])) := below_setRow (NB1.out.alloc NB1.out.size _) NB1.out.size
    have hA_ : Below W1.heap.size W1 ((W1.alloc (.cells #[.slice none 0 0, .slice none 0 0, .int .i64 0, .int .i64 0, .int .i64 0, .slice none 0 0, .int .i64 0] 44)).setRow W1.heap.size #[.slice none 0 0, .slice none 0 0, .int .i64 0, .int .i64 0, .int .i64 0, .slice none 0 0, .int .i64 0]) := below_setRow ((Below.refl _ _).alloc (Nat.le_refl _) _) (Nat.le_refl _)
    have NS2 := TW.hide (blk_keep NS.out hA_)
    have N2 : Hid (((W1.alloc (.cells #[.slice none 0 0, .slice none 0 0, .int .i64 0, .int .i64 0, .int .i64 0, .slice none 0 0, .int .i64 0] 44)).setRow W1.heap.size #[.slice none 0 0, .slice none 0 0, .int .i64 0, .int .i64 0, .int .i64 0, .slice none 0 0, .int .i64 0]).heap[W1.heap.size]? = some (.cells #[.slice none 0 0, .slice none 0 0, .int .i64 0, .int .i64 0, .int .i64 0, .slice none 0 0, .int .i64 0] 44 (0, 0))) := setRow_heap _ _ _ _ _ _ (heap_alloc_new W1 _)
    clear hA_ NS
    have HPe' := TW.hide (HPe.out he)
    have kv : (ve != 0) = true := by simp [he]
    clear he h1 h2 HOk HPe HPa HPo HEw
    go_wp2_with (first | (refine wpList_store_row (by rfl) 44 _ _ (by rfl) W1.heap.size #[.slice none 0 0, .slice none 0 0, .int .i64 0, .int .i64 0, .int .i64 0, .slice none 0 0, .int .i64 0] (by rfl) (by rfl) 44 _ (heap_alloc_new W1 _) (by kernel_rfl) (by rfl) (by simp [Value.oneCell']) ?_; generalize World.setRow _ _ _ = X2 at *; generalize W1.heap.size = g2 at *; obtain ⟨q0, q1, q2, q3, q4, q5, q6⟩ := cellsY7 N2.out; obtain ⟨r0, r1, r2, r3, r4⟩ := cellsY5 NS2.out) | fail)
    have HR := TW.hide (HPe'.out X2 NB2.out)
    first | exact HR.out | exact ⟨rfl, HR.out⟩
set_option maxRecDepth 100000 in
set_option maxHeartbeats 4000000 in
theorem ptguards (s : Syst) (pa : Option Addr) (pc : Nat) (ra : Option Addr) (rc : Nat) (la : Option Addr) (lc : Nat) (l : List Ev) (i : Int) (w : World) (hs : SyI w s pa ra) (hl : EvI w la lc l) :
    Calls Try.prog 13 #[.agg #[.slice pa s.progs.length pc, .slice ra s.rooms.length rc, .int .i64 s.groups, .int .i64 s.locks, .int .i64 s.cells], .slice la l.length lc, .int .i64 i] w fun e w' => ∃ a c, e = .returned (.tuple #[.slice a (gdA s l i).length c, .int .i64 (gdE s l i)]) ∧ NR w' a (gdA s l i) ∧ Below w.heap.size w w' := by
  obtain ⟨POST, hP⟩ : ∃ Q : Ending → World → Prop, Q = fun e w' => ∃ a c, e = .returned (.tuple #[.slice a (gdA s l i).length c, .int .i64 (gdE s l i)]) ∧ NR w' a (gdA s l i) ∧ Below w.heap.size w w' := ⟨_, rfl⟩
  obtain ⟨va, vn, ve, hV⟩ : ∃ a n e, Tr.vR s l = (a, n, e) := ⟨_, _, _, rfl⟩
  have HRd : Hid (∀ W, Below w.heap.size w W → Calls Try.prog 15 #[.agg #[.slice pa s.progs.length pc, .slice ra s.rooms.length rc, .int .i64 s.groups, .int .i64 s.locks, .int .i64 s.cells], .slice la l.length lc] W fun e w' => ∃ hc, e = .returned (.tuple #[.agg hc, .int .i64 va, .int .i64 ve]) ∧ (ve = 0 → hc = #[.slice pa s.progs.length pc, .slice ra s.rooms.length rc, .int .i64 s.groups, .int .i64 s.locks, .int .i64 s.cells, .slice la l.length lc, .int .i64 (Tr.rnC l : Int)]) ∧ (ve ≠ 0 → hc = #[.slice none 0 0, .slice none 0 0, .int .i64 0, .int .i64 0, .int .i64 0, .slice none 0 0, .int .i64 0]) ∧ Below W.heap.size W w') := fun W hW => (pread s pa pc ra rc la lc l W (hs.below hW) (hl.below hW)).mono (fun e w' h => by unfold ReaQ at h; rw [hV] at h; exact h)
  have HOk : Hid (ve = 0 → Ok s ∧ l.length ≤ 40000 ∧ Tr.Gd s l l.length) := fun h => by
    have h2 := Tr.vR_ok (s := s) (l := l) (by rw [hV]; exact h)
    exact ⟨h2.1, h2.2.1, h2.2.2.1⟩
  have HPe : Hid (ve ≠ 0 → ∀ W, Below w.heap.size w W → POST (.returned (.tuple #[.slice none 0 0, .int .i64 ve])) W) := fun h W hW => by
    rw [hP]
    have h1 : gdE s l i = ve := by unfold gdE; rw [hV]; exact if_neg h
    have h2 : gdA s l i = [] := by unfold gdA; rw [h1, if_neg h]
    rw [h1, h2]
    exact ⟨none, 0, rfl, .inl rfl, hW⟩
  have HPa : Hid (ve = 0 → ¬ (0 ≤ i ∧ i < s.cells) → ∀ W, Below w.heap.size w W → POST (.returned (.tuple #[.slice none 0 0, .int .i64 1])) W) := fun h hi W hW => by
    rw [hP]
    have h1 : gdE s l i = 1 := by unfold gdE; rw [hV]; dsimp only; rw [if_pos h, if_neg hi]
    have h2 : gdA s l i = [] := by unfold gdA; rw [h1]; exact if_neg (by decide)
    rw [h1, h2]
    exact ⟨none, 0, rfl, .inl rfl, hW⟩
  have HPo : Hid (ve = 0 → 0 ≤ i ∧ i < s.cells → ∀ (b c : Nat) W, guT l i l.length = true → Nr w.heap.size W b c (guL s.locks.toNat l i l.length) → Below w.heap.size w W → POST (.returned (.tuple #[.slice (some ⟨b, 0, none⟩) (guL s.locks.toNat l i l.length).length c, .int .i64 0])) W) := fun h hi b c W ht hN hW => by
    rw [hP]
    have h1 : gdE s l i = 0 := by unfold gdE; rw [hV]; dsimp only; rw [if_pos h, if_pos hi]
    have h2 : gdA s l i = guL s.locks.toNat l i l.length := by unfold gdA; rw [h1, if_pos rfl, if_pos ht]
    rw [h1, h2]
    exact ⟨_, c, rfl, nr_nr hN, hW⟩
  have HPn : Hid (ve = 0 → 0 ≤ i ∧ i < s.cells → ∀ W, guT l i l.length = false → Below w.heap.size w W → POST (.returned (.tuple #[.slice none 0 0, .int .i64 0])) W) := fun h hi W ht hW => by
    rw [hP]
    have h1 : gdE s l i = 0 := by unfold gdE; rw [hV]; dsimp only; rw [if_pos h, if_pos hi]
    have h2 : gdA s l i = [] := by unfold gdA; rw [h1, if_pos rfl, ht]; rfl
    rw [h1, h2]
    exact ⟨none, 0, rfl, .inl rfl, hW⟩
  rw [← hP]
  have HEw := TW.hide hl
  clear hP hs hl hV
  have hA : Below w.heap.size w (w.alloc (.cells #[.slice pa s.progs.length pc, .slice ra s.rooms.length rc, .int .i64 s.groups, .int .i64 s.locks, .int .i64 s.cells] 25)) := (Below.refl _ _).alloc (Nat.le_refl _) _
  have N1 : Hid ((w.alloc (.cells #[.slice pa s.progs.length pc, .slice ra s.rooms.length rc, .int .i64 s.groups, .int .i64 s.locks, .int .i64 s.cells] 25)).heap[w.heap.size]? = some (.cells #[.slice pa s.progs.length pc, .slice ra s.rooms.length rc, .int .i64 s.groups, .int .i64 s.locks, .int .i64 s.cells] 25 (0, 0))) := heap_alloc_new w _
  have NB := TW.hide hA
  clear hA
  go_enter Try.func13, Try.ntmps13
  refine wp_seq_k fun K hK => ?_
  have HK := TW.hide hK
  clear hK
  go_wp2
  refine HK.out _ _ ?_
  clear HK K
  generalize w.alloc _ = X at *
  obtain ⟨s0, s1, s2, s3, s4⟩ := cellsY5 N1.out
  go_wp2_with fail
  refine (HRd.out X NB.out).mono ?_
  rintro e1 W1 ⟨hc, rfl, h1, h2, hb⟩
  have NB1 : Hid (Below w.heap.size w W1) := NB.out.trans (hb.mono NB.out.size)
  have NS := TW.hide (blk_keep N1.out hb)
  clear hb NB N1 s0 s1 s2 s3 s4 HRd
  by_cases he : ve = 0
  · obtain rfl := h1 he
    obtain ⟨ho, hn, hg⟩ := HOk.out he
    have NB2 : Hid (Below w.heap.size w ((W1.alloc (.cells #[.slice none 0 0, .slice none 0 0, .int .i64 0, .int .i64 0, .int .i64 0, .slice none 0 0, .int .i64 0] 44)).setRow W1.heap.size #[.slice pa s.progs.length pc, .slice ra s.rooms.length rc, .int .i64 s.groups, .int .i64 s.locks, .int .i64 s.cells, .slice la l.length lc, .int .i64 (Tr.rnC l : Int)])) := below_setRow (NB1.out.alloc NB1.out.size _) NB1.out.size
    have hA_ : Below W1.heap.size W1 ((W1.alloc (.cells #[.slice none 0 0, .slice none 0 0, .int .i64 0, .int .i64 0, .int .i64 0, .slice none 0 0, .int .i64 0] 44)).setRow W1.heap.size #[.slice pa s.progs.length pc, .slice ra s.rooms.length rc, .int .i64 s.groups, .int .i64 s.locks, .int .i64 s.cells, .slice la l.length lc, .int .i64 (Tr.rnC l : Int)]) := below_setRow ((Below.refl _ _).alloc (Nat.le_refl _) _) (Nat.le_refl _)
    have NS2 := TW.hide (blk_keep NS.out hA_)
    have N2 : Hid (((W1.alloc (.cells #[.slice none 0 0, .slice none 0 0, .int .i64 0, .int .i64 0, .int .i64 0, .slice none 0 0, .int .i64 0] 44)).setRow W1.heap.size #[.slice pa s.progs.length pc, .slice ra s.rooms.length rc, .int .i64 s.groups, .int .i64 s.locks, .int .i64 s.cells, .slice la l.length lc, .int .i64 (Tr.rnC l : Int)]).heap[W1.heap.size]? = some (.cells #[.slice pa s.progs.length pc, .slice ra s.rooms.length rc, .int .i64 s.groups, .int .i64 s.locks, .int .i64 s.cells, .slice la l.length lc, .int .i64 (Tr.rnC l : Int)] 44 (0, 0))) := setRow_heap _ _ _ _ _ _ (heap_alloc_new W1 _)
    clear hA_ NS
    have hL : s.locks = (s.locks.toNat : Int) := by have := ho.l1; omega
    have hL6 : s.locks.toNat ≤ 64 := by have := ho.l1; omega
    have HGu : Hid (∀ W, Below w.heap.size w W → Calls Try.prog 22 #[.agg #[.slice pa s.progs.length pc, .slice ra s.rooms.length rc, .int .i64 s.groups, .int .i64 s.locks, .int .i64 s.cells, .slice la l.length lc, .int .i64 (Tr.rnC l : Int)], .int .i64 i] W (GuaQ W s.locks.toNat l i)) := fun W hW => pguards s pa pc ra rc la lc l _ s.locks.toNat i W (HEw.out.below hW) hL hL6 hn
    have HPa' := TW.hide (HPa.out he)
    have HPo' := TW.hide (HPo.out he)
    have HPn' := TW.hide (HPn.out he)
    subst he
    clear h1 h2 ho hn hg hL hL6 HOk HPe HPa HPo HPn HEw
    by_cases hi : 0 ≤ i ∧ i < s.cells
    · have ki0 : (i < 0) = False := by simp; omega
      have ki1 : (s.cells ≤ i) = False := by simp; omega
      have HPo2 := TW.hide (HPo'.out hi)
      have HPn2 := TW.hide (HPn'.out hi)
      clear hi HPa' HPo' HPn'
      go_wp2_with (first | (refine wpList_store_row (by rfl) 44 _ _ (by rfl) W1.heap.size #[.slice pa s.progs.length pc, .slice ra s.rooms.length rc, .int .i64 s.groups, .int .i64 s.locks, .int .i64 s.cells, .slice la l.length lc, .int .i64 (Tr.rnC l : Int)] (by rfl) (by rfl) 44 _ (heap_alloc_new W1 _) (by kernel_rfl) (by rfl) (by simp [Value.oneCell']) ?_; generalize World.setRow _ _ _ = X2 at *; generalize W1.heap.size = g2 at *; obtain ⟨q0, q1, q2, q3, q4, q5, q6⟩ := cellsY7 N2.out; obtain ⟨r0, r1, r2, r3, r4⟩ := cellsY5 NS2.out) | fail)
      refine (HGu.out X2 NB2.out).mono ?_
      rintro e3 W3 ⟨hb, hc⟩
      have NB3 : Hid (Below w.heap.size w W3) := NB2.out.trans (hb.mono NB2.out.size)
      rcases hc with ⟨ht, b, rfl, hN⟩ | ⟨ht, rfl⟩
      · have HR := TW.hide (HPo2.out b s.locks.toNat W3 ht (own_base hN NB2.out.size) NB3.out)
        clear ht hN hb HPo2 HPn2
        go_wp2
        first | exact HR.out | exact ⟨rfl, HR.out⟩
      · have HR := TW.hide (HPn2.out W3 ht NB3.out)
        clear ht hb HPo2 HPn2
        go_wp2
        first | exact HR.out | exact ⟨rfl, HR.out⟩
    · have HPx := TW.hide (HPa'.out hi)
      by_cases ki0 : i < 0
      · clear hi HPa' HPo' HPn'
        go_wp2_with (first | (refine wpList_store_row (by rfl) 44 _ _ (by rfl) W1.heap.size #[.slice pa s.progs.length pc, .slice ra s.rooms.length rc, .int .i64 s.groups, .int .i64 s.locks, .int .i64 s.cells, .slice la l.length lc, .int .i64 (Tr.rnC l : Int)] (by rfl) (by rfl) 44 _ (heap_alloc_new W1 _) (by kernel_rfl) (by rfl) (by simp [Value.oneCell']) ?_; generalize World.setRow _ _ _ = X2 at *; generalize W1.heap.size = g2 at *; obtain ⟨q0, q1, q2, q3, q4, q5, q6⟩ := cellsY7 N2.out; obtain ⟨r0, r1, r2, r3, r4⟩ := cellsY5 NS2.out) | fail)
        have HR := TW.hide (HPx.out X2 NB2.out)
        first | exact HR.out | exact ⟨rfl, HR.out⟩
      · have ki1 : s.cells ≤ i := by omega
        clear hi HPa' HPo' HPn'
        go_wp2_with (first | (refine wpList_store_row (by rfl) 44 _ _ (by rfl) W1.heap.size #[.slice pa s.progs.length pc, .slice ra s.rooms.length rc, .int .i64 s.groups, .int .i64 s.locks, .int .i64 s.cells, .slice la l.length lc, .int .i64 (Tr.rnC l : Int)] (by rfl) (by rfl) 44 _ (heap_alloc_new W1 _) (by kernel_rfl) (by rfl) (by simp [Value.oneCell']) ?_; generalize World.setRow _ _ _ = X2 at *; generalize W1.heap.size = g2 at *; obtain ⟨q0, q1, q2, q3, q4, q5, q6⟩ := cellsY7 N2.out; obtain ⟨r0, r1, r2, r3, r4⟩ := cellsY5 NS2.out) | fail)
        have HR := TW.hide (HPx.out X2 NB2.out)
        first | exact HR.out | exact ⟨rfl, HR.out⟩
  · obtain rfl := h2 he
    have NB2 : Hid (Below w.heap.size w ((W1.alloc (.cells #[.slice none 0 0, .slice none 0 0, .int .i64 0, .int .i64 0, .int .i64 0, .slice none 0 0, .int .i64 0] 44)).setRow W1.heap.size #[.slice none 0 0, .slice none 0 0, .int .i64 0, .int .i64 0, .int .i64 0, .slice none 0 0, .int .i64 0])) := below_setRow (NB1.out.alloc NB1.out.size _) NB1.out.size
    have hA_ : Below W1.heap.size W1 ((W1.alloc (.cells #[.slice none 0 0, .slice none 0 0, .int .i64 0, .int .i64 0, .int .i64 0, .slice none 0 0, .int .i64 0] 44)).setRow W1.heap.size #[.slice none 0 0, .slice none 0 0, .int .i64 0, .int .i64 0, .int .i64 0, .slice none 0 0, .int .i64 0]) := below_setRow ((Below.refl _ _).alloc (Nat.le_refl _) _) (Nat.le_refl _)
    have NS2 := TW.hide (blk_keep NS.out hA_)
    have N2 : Hid (((W1.alloc (.cells #[.slice none 0 0, .slice none 0 0, .int .i64 0, .int .i64 0, .int .i64 0, .slice none 0 0, .int .i64 0] 44)).setRow W1.heap.size #[.slice none 0 0, .slice none 0 0, .int .i64 0, .int .i64 0, .int .i64 0, .slice none 0 0, .int .i64 0]).heap[W1.heap.size]? = some (.cells #[.slice none 0 0, .slice none 0 0, .int .i64 0, .int .i64 0, .int .i64 0, .slice none 0 0, .int .i64 0] 44 (0, 0))) := setRow_heap _ _ _ _ _ _ (heap_alloc_new W1 _)
    clear hA_ NS
    have HPe' := TW.hide (HPe.out he)
    have kv : (ve != 0) = true := by simp [he]
    clear he h1 h2 HOk HPe HPa HPo HEw
    go_wp2_with (first | (refine wpList_store_row (by rfl) 44 _ _ (by rfl) W1.heap.size #[.slice none 0 0, .slice none 0 0, .int .i64 0, .int .i64 0, .int .i64 0, .slice none 0 0, .int .i64 0] (by rfl) (by rfl) 44 _ (heap_alloc_new W1 _) (by kernel_rfl) (by rfl) (by simp [Value.oneCell']) ?_; generalize World.setRow _ _ _ = X2 at *; generalize W1.heap.size = g2 at *; obtain ⟨q0, q1, q2, q3, q4, q5, q6⟩ := cellsY7 N2.out; obtain ⟨r0, r1, r2, r3, r4⟩ := cellsY5 NS2.out) | fail)
    have HR := TW.hide (HPe'.out X2 NB2.out)
    first | exact HR.out | exact ⟨rfl, HR.out⟩
end LW
end Go.Proofs.Ytlnlkhbegdifkaa
