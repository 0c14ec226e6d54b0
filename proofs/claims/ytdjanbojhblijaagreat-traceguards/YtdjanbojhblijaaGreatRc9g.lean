/-
 trace.Races.
-/
import Derived.Test.YtdjanbojhblijaaGreatRc8g
import Derived.Test.YtdjanbojhblijaaGreatTvCg
namespace Go.Proofs.YtdjanbojhblijaaGreat
open Go.RowKit
set_option linter.unusedVariables false
set_option linter.unusedSimpArgs false
namespace LW
open Mc
set_option maxRecDepth 100000 in
set_option maxHeartbeats 4000000 in
theorem ptraces (s : Syst) (pa : Option Addr) (pc : Nat) (ra : Option Addr) (rc : Nat) (la : Option Addr) (lc : Nat) (l : List Ev) (mo : Int) (w : World) (hs : SyI w s pa ra) (hl : EvI w la lc l) (hmo : i64 mo) :
  Calls Tryz.prog 5 #[.agg #[.slice pa s.progs.length pc, .slice ra s.rooms.length rc, .int .i64 s.groups, .int .i64 s.locks, .int .i64 s.cells], .slice la l.length lc, .int .i64 mo] w (fun e w' => ∃ v es, e = .returned (.tuple #[v, .int .i64 (if (Tr.vR s l).2.2 = 0 then (if 0 ≤ mo ∧ mo ≤ 4096 then 0 else 1) else (Tr.vR s l).2.2)]) ∧ w'.ownsRow w.heap.size 33 2 v es.length (edC es) ∧ (∀ x ∈ es, RcP s l x) ∧ ((if (Tr.vR s l).2.2 = 0 then (if 0 ≤ mo ∧ mo ≤ 4096 then 0 else 1) else (Tr.vR s l).2.2) ≠ 0 → es = []) ∧ Below w.heap.size w w') := by
 obtain ⟨POST, hP⟩ : ∃ Q : Ending → World → Prop, Q = fun e w' => ∃ v es, e = .returned (.tuple #[v, .int .i64 (if (Tr.vR s l).2.2 = 0 then (if 0 ≤ mo ∧ mo ≤ 4096 then 0 else 1) else (Tr.vR s l).2.2)]) ∧ w'.ownsRow w.heap.size 33 2 v es.length (edC es) ∧ (∀ x ∈ es, RcP s l x) ∧ ((if (Tr.vR s l).2.2 = 0 then (if 0 ≤ mo ∧ mo ≤ 4096 then 0 else 1) else (Tr.vR s l).2.2) ≠ 0 → es = []) ∧ Below w.heap.size w w' := ⟨_, rfl⟩
 obtain ⟨va, vn, ve, hV⟩ : ∃ a n e, Tr.vR s l = (a, n, e) := ⟨_, _, _, rfl⟩
 have HRd : Hid (∀ W, Below w.heap.size w W → Calls Tryz.prog 9 #[.agg #[.slice pa s.progs.length pc, .slice ra s.rooms.length rc, .int .i64 s.groups, .int .i64 s.locks, .int .i64 s.cells], .slice la l.length lc] W fun e w' => ∃ hc, e = .returned (.tuple #[.agg hc, .int .i64 va, .int .i64 ve]) ∧ (ve = 0 → hc = #[.slice pa s.progs.length pc, .slice ra s.rooms.length rc, .int .i64 s.groups, .int .i64 s.locks, .int .i64 s.cells, .slice la l.length lc, .int .i64 (Tr.rnC l : Int)]) ∧ (ve ≠ 0 → hc = #[.slice none 0 0, .slice none 0 0, .int .i64 0, .int .i64 0, .int .i64 0, .slice none 0 0, .int .i64 0]) ∧ Below W.heap.size W w') := fun W hW => (pread s pa pc ra rc la lc l W (hs.below hW) (hl.below hW)).mono (fun e w' h => by unfold ReaQ at h; rw [hV] at h; exact h)
 have HOk : Hid (ve = 0 → Ok s ∧ l.length ≤ 40000 ∧ Tr.Gd s l l.length) := fun h => by
  have h2 := Tr.vR_ok (s := s) (l := l) (by rw [hV]; exact h)
  exact ⟨h2.1, h2.2.1, h2.2.2.1⟩
 have HPe : Hid (ve ≠ 0 → ∀ W, Below w.heap.size w W → POST (.returned (.tuple #[.slice none 0 0, .int .i64 ve])) W) := fun h W hW => by
  rw [hP]
  have e : (if (Tr.vR s l).2.2 = 0 then (if 0 ≤ mo ∧ mo ≤ 4096 then 0 else 1) else (Tr.vR s l).2.2) = ve := by rw [hV]; exact if_neg h
  rw [e]
  exact ⟨.slice none 0 0, [], rfl, ⟨rfl, .inl ⟨rfl, rfl⟩⟩, (fun x hx => (by cases hx)), fun _ => rfl, hW⟩
 have HPa : Hid (ve = 0 → ¬ (0 ≤ mo ∧ mo ≤ 4096) → ∀ W, Below w.heap.size w W → POST (.returned (.tuple #[.slice none 0 0, .int .i64 1])) W) := fun h hi W hW => by
  rw [hP]
  have e : (if (Tr.vR s l).2.2 = 0 then (if 0 ≤ mo ∧ mo ≤ 4096 then 0 else 1) else (Tr.vR s l).2.2) = 1 := by rw [hV, if_pos h, if_neg hi]
  rw [e]
  exact ⟨.slice none 0 0, [], rfl, ⟨rfl, .inl ⟨rfl, rfl⟩⟩, (fun x hx => (by cases hx)), fun _ => rfl, hW⟩
 have HPo : Hid (ve = 0 → (0 ≤ mo ∧ mo ≤ 4096) → ∀ W v es, W.ownsRow w.heap.size 33 2 v es.length (edC es) → (∀ x ∈ es, RcP s l x) → Below w.heap.size w W → POST (.returned (.tuple #[v, .int .i64 0])) W) := fun h hi W v es h1 h2 hW => by
  rw [hP]
  have e : (if (Tr.vR s l).2.2 = 0 then (if 0 ≤ mo ∧ mo ≤ 4096 then 0 else 1) else (Tr.vR s l).2.2) = 0 := by rw [hV, if_pos h, if_pos hi]
  rw [e]
  exact ⟨v, es, rfl, h1, h2, fun h => absurd rfl h, hW⟩
 rw [← hP]
 have HEw := TW.hide hl
 have HSw := TW.hide hs
 clear hP hs hl hV
 have hA : Below w.heap.size w (w.alloc (.cells #[.slice pa s.progs.length pc, .slice ra s.rooms.length rc, .int .i64 s.groups, .int .i64 s.locks, .int .i64 s.cells] 25)) := (Below.refl _ _).alloc (Nat.le_refl _) _
 have N1 : Hid ((w.alloc (.cells #[.slice pa s.progs.length pc, .slice ra s.rooms.length rc, .int .i64 s.groups, .int .i64 s.locks, .int .i64 s.cells] 25)).heap[w.heap.size]? = some (.cells #[.slice pa s.progs.length pc, .slice ra s.rooms.length rc, .int .i64 s.groups, .int .i64 s.locks, .int .i64 s.cells] 25 (0, 0))) := heap_alloc_new w _
 have NB := TW.hide hA
 clear hA
 go_enter Tryz.func5, Tryz.ntmps5
 refine wp_seq_k fun K hK => ?_
 have HK := TW.hide hK
 clear hK
 go_wp2
 refine HK.out _ _ ?_
 clear HK K
 generalize w.alloc _ = X at *
 obtain ⟨s0, s1, s2, s3, s4⟩ := cellsY5 N1.out
 go_wp2_with fail
 refine (HRd.out X NB.out).mono ?_
 rintro e1 W1 ⟨hc, rfl, h1, h2, hb⟩
 have NB1 : Hid (Below w.heap.size w W1) := NB.out.trans (hb.mono NB.out.size)
 have NS := TW.hide (blk_keep N1.out hb)
 clear hb NB N1 s0 s1 s2 s3 s4 HRd
 by_cases he : ve = 0
 ·obtain rfl := h1 he
  obtain ⟨ho, hn, hg⟩ := HOk.out he
  have NB2 : Hid (Below w.heap.size w ((W1.alloc (.cells #[.slice none 0 0, .slice none 0 0, .int .i64 0, .int .i64 0, .int .i64 0, .slice none 0 0, .int .i64 0] 43)).setRow W1.heap.size #[.slice pa s.progs.length pc, .slice ra s.rooms.length rc, .int .i64 s.groups, .int .i64 s.locks, .int .i64 s.cells, .slice la l.length lc, .int .i64 (Tr.rnC l : Int)])) := below_setRow (NB1.out.alloc NB1.out.size _) NB1.out.size
  have hA_ : Below W1.heap.size W1 ((W1.alloc (.cells #[.slice none 0 0, .slice none 0 0, .int .i64 0, .int .i64 0, .int .i64 0, .slice none 0 0, .int .i64 0] 43)).setRow W1.heap.size #[.slice pa s.progs.length pc, .slice ra s.rooms.length rc, .int .i64 s.groups, .int .i64 s.locks, .int .i64 s.cells, .slice la l.length lc, .int .i64 (Tr.rnC l : Int)]) := below_setRow ((Below.refl _ _).alloc (Nat.le_refl _) _) (Nat.le_refl _)
  have NS2 := TW.hide (blk_keep NS.out hA_)
  have N2 : Hid (((W1.alloc (.cells #[.slice none 0 0, .slice none 0 0, .int .i64 0, .int .i64 0, .int .i64 0, .slice none 0 0, .int .i64 0] 43)).setRow W1.heap.size #[.slice pa s.progs.length pc, .slice ra s.rooms.length rc, .int .i64 s.groups, .int .i64 s.locks, .int .i64 s.cells, .slice la l.length lc, .int .i64 (Tr.rnC l : Int)]).heap[W1.heap.size]? = some (.cells #[.slice pa s.progs.length pc, .slice ra s.rooms.length rc, .int .i64 s.groups, .int .i64 s.locks, .int .i64 s.cells, .slice la l.length lc, .int .i64 (Tr.rnC l : Int)] 43 (0, 0))) := setRow_heap _ _ _ _ _ _ (heap_alloc_new W1 _)
  clear hA_ NS
  have HRa : Hid (∀ (mm : Nat) W, mm ≤ 1000000 → Below w.heap.size w W → Calls Tryz.prog 10 #[.agg #[.slice pa s.progs.length pc, .slice ra s.rooms.length rc, .int .i64 s.groups, .int .i64 s.locks, .int .i64 s.cells, .slice la l.length lc, .int .i64 (Tr.rnC l : Int)], .int .i64 (mm : Int)] W (fun e w' => ∃ v es, e = .returned v ∧ w'.ownsRow W.heap.size 33 2 v es.length (edC es) ∧ es.length ≤ mm ∧ (∀ x ∈ es, RcP s l x) ∧ Below W.heap.size W w')) := fun mm W hm hW => praces s pa pc ra rc la lc l mm W hm (HSw.out.below hW) (HEw.out.below hW) ho hg hn
  have HPa' := TW.hide (HPa.out he)
  have HPo' := TW.hide (HPo.out he)
  subst he
  clear h1 h2 ho hn hg HOk HPe HPa HPo HEw HSw
  by_cases hmm : 0 ≤ mo ∧ mo ≤ 4096
  ·obtain ⟨mm, rfl⟩ : ∃ mm : Nat, mo = (mm : Int) := ⟨mo.toNat, by omega⟩
   have k1 : ¬ ((mm : Int) < 0) := by omega
   have k2 : ¬ ((4096 : Int) < (mm : Int)) := by omega
   go_wp2_with (first | (refine wpList_store_row (by rfl) 43 _ _ (by rfl) W1.heap.size #[.slice pa s.progs.length pc, .slice ra s.rooms.length rc, .int .i64 s.groups, .int .i64 s.locks, .int .i64 s.cells, .slice la l.length lc, .int .i64 (Tr.rnC l : Int)] (by rfl) (by rfl) 43 _ (heap_alloc_new W1 _) (by kernel_rfl) (by rfl) (by simp [Value.oneCell']) ?_; generalize World.setRow _ _ _ = X2 at *; generalize W1.heap.size = g2 at *; obtain ⟨q0, q1, q2, q3, q4, q5, q6⟩ := cellsY7 N2.out; obtain ⟨r0, r1, r2, r3, r4⟩ := cellsY5 NS2.out) | fail)
   refine (HRa.out mm X2 (by omega) NB2.out).mono ?_
   rintro e3 W3 ⟨v3, es, rfl, ho3, _, hr3, hb⟩
   obtain ⟨a9, c9, e4⟩ := own_openE ho3
   subst e4
   have HR := TW.hide (HPo'.out hmm W3 _ es (own_baseL ho3 NB2.out.size) hr3 (NB2.out.trans (hb.mono NB2.out.size)))
   clear hr3 ho3 hb
   go_wp2
   first | exact HR.out | exact ⟨rfl, HR.out⟩
  ·rcases Int.lt_or_le mo 0 with h | h
   ·have k1 : mo < 0 := h
    go_wp2_with (first | (refine wpList_store_row (by rfl) 43 _ _ (by rfl) W1.heap.size #[.slice pa s.progs.length pc, .slice ra s.rooms.length rc, .int .i64 s.groups, .int .i64 s.locks, .int .i64 s.cells, .slice la l.length lc, .int .i64 (Tr.rnC l : Int)] (by rfl) (by rfl) 43 _ (heap_alloc_new W1 _) (by kernel_rfl) (by rfl) (by simp [Value.oneCell']) ?_; generalize World.setRow _ _ _ = X2 at *; generalize W1.heap.size = g2 at *; obtain ⟨q0, q1, q2, q3, q4, q5, q6⟩ := cellsY7 N2.out; obtain ⟨r0, r1, r2, r3, r4⟩ := cellsY5 NS2.out) | fail)
    have HR := TW.hide (HPa'.out hmm X2 NB2.out)
    first | exact HR.out | exact ⟨rfl, HR.out⟩
   ·have k1 : ¬ mo < 0 := by omega
    have k2 : (4096 : Int) < mo := by omega
    go_wp2_with (first | (refine wpList_store_row (by rfl) 43 _ _ (by rfl) W1.heap.size #[.slice pa s.progs.length pc, .slice ra s.rooms.length rc, .int .i64 s.groups, .int .i64 s.locks, .int .i64 s.cells, .slice la l.length lc, .int .i64 (Tr.rnC l : Int)] (by rfl) (by rfl) 43 _ (heap_alloc_new W1 _) (by kernel_rfl) (by rfl) (by simp [Value.oneCell']) ?_; generalize World.setRow _ _ _ = X2 at *; generalize W1.heap.size = g2 at *; obtain ⟨q0, q1, q2, q3, q4, q5, q6⟩ := cellsY7 N2.out; obtain ⟨r0, r1, r2, r3, r4⟩ := cellsY5 NS2.out) | fail)
    have HR := TW.hide (HPa'.out hmm X2 NB2.out)
    first | exact HR.out | exact ⟨rfl, HR.out⟩
 ·obtain rfl := h2 he
  have NB2 : Hid (Below w.heap.size w ((W1.alloc (.cells #[.slice none 0 0, .slice none 0 0, .int .i64 0, .int .i64 0, .int .i64 0, .slice none 0 0, .int .i64 0] 43)).setRow W1.heap.size #[.slice none 0 0, .slice none 0 0, .int .i64 0, .int .i64 0, .int .i64 0, .slice none 0 0, .int .i64 0])) := below_setRow (NB1.out.alloc NB1.out.size _) NB1.out.size
  have hA_ : Below W1.heap.size W1 ((W1.alloc (.cells #[.slice none 0 0, .slice none 0 0, .int .i64 0, .int .i64 0, .int .i64 0, .slice none 0 0, .int .i64 0] 43)).setRow W1.heap.size #[.slice none 0 0, .slice none 0 0, .int .i64 0, .int .i64 0, .int .i64 0, .slice none 0 0, .int .i64 0]) := below_setRow ((Below.refl _ _).alloc (Nat.le_refl _) _) (Nat.le_refl _)
  have NS2 := TW.hide (blk_keep NS.out hA_)
  have N2 : Hid (((W1.alloc (.cells #[.slice none 0 0, .slice none 0 0, .int .i64 0, .int .i64 0, .int .i64 0, .slice none 0 0, .int .i64 0] 43)).setRow W1.heap.size #[.slice none 0 0, .slice none 0 0, .int .i64 0, .int .i64 0, .int .i64 0, .slice none 0 0, .int .i64 0]).heap[W1.heap.size]? = some (.cells #[.slice none 0 0, .slice none 0 0, .int .i64 0, .int .i64 0, .int .i64 0, .slice none 0 0, .int .i64 0] 43 (0, 0))) := setRow_heap _ _ _ _ _ _ (heap_alloc_new W1 _)
  clear hA_ NS
  have HPe' := TW.hide (HPe.out he)
  have kv : (ve != 0) = true := by simp [he]
  clear he h1 h2 HOk HPe HPa HPo HEw HSw
  go_wp2_with (first | (refine wpList_store_row (by rfl) 43 _ _ (by rfl) W1.heap.size #[.slice none 0 0, .slice none 0 0, .int .i64 0, .int .i64 0, .int .i64 0, .slice none 0 0, .int .i64 0] (by rfl) (by rfl) 43 _ (heap_alloc_new W1 _) (by kernel_rfl) (by rfl) (by simp [Value.oneCell']) ?_; generalize World.setRow _ _ _ = X2 at *; generalize W1.heap.size = g2 at *; obtain ⟨q0, q1, q2, q3, q4, q5, q6⟩ := cellsY7 N2.out; obtain ⟨r0, r1, r2, r3, r4⟩ := cellsY5 NS2.out) | fail)
  have HR := TW.hide (HPe'.out X2 NB2.out)
  first | exact HR.out | exact ⟨rfl, HR.out⟩
end LW
end Go.Proofs.YtdjanbojhblijaaGreat
