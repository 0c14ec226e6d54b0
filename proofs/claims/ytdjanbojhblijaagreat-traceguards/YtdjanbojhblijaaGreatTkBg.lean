/-
  TkG, TkH, TkI in one.
-/
import Derived.Test.YtdjanbojhblijaaGreatTkAg
namespace Go.Proofs.YtdjanbojhblijaaGreat
open Go.RowKit
set_option linter.unusedVariables false
set_option linter.unusedSimpArgs false
namespace LW
open Mc
/-- Is an event an access of a cell? -/
def acB (e : Ev) (cell : Int) : Bool := decide ((e.op = 12 ∨ e.op = 13) ∧ e.a = cell)
/-- Does an event leave a lock a guard? -/
def gB (l : List Ev) (cell : Int) (j : Nat) (x : Int) : Bool := if acB (Tr.ev l j) cell then decide (Tr.hdC (l.take j) x = some (Tr.ev l j).who) else if (Tr.ev l j).op = 9 ∧ (Tr.ev l j).a = x then decide (Tr.hdC (l.take j) x = some (Tr.ev l j).who) else true
/-- The guards so far. -/
def guL (L : Nat) (l : List Ev) (cell : Int) (k : Nat) : List Int := (lkL L).filter (fun x => (List.range k).all (fun j => gB l cell j x))
/-- Was the cell touched so far? -/
def guT (l : List Ev) (cell : Int) (k : Nat) : Bool := (List.range k).any (fun j => acB (Tr.ev l j) cell)
theorem guL_zero (L : Nat) (l : List Ev) (cell : Int) : guL L l cell 0 = lkL L := by
 unfold guL
 simp
theorem guL_succ (L : Nat) (l : List Ev) (cell : Int) (k : Nat) : guL L l cell (k + 1) = (guL L l cell k).filter (gB l cell k) := by
 unfold guL
 rw [List.filter_filter]
 congr 1
 funext x
 rw [List.range_succ, List.all_append, Bool.and_comm]
 simp
theorem guT_succ (l : List Ev) (cell : Int) (k : Nat) : guT l cell (k + 1) = (guT l cell k || acB (Tr.ev l k) cell) := by
 unfold guT
 rw [List.range_succ, List.any_append]
 simp
theorem guL_mem (L : Nat) (l : List Ev) (cell : Int) (k : Nat) : ∀ x ∈ guL L l cell k, 0 ≤ x ∧ x < (L : Int) := fun x hx => lkL_mem L x (List.mem_filter.1 hx).1
theorem guL_len (L : Nat) (l : List Ev) (cell : Int) (k : Nat) : (guL L l cell k).length ≤ L := by
 have := List.length_filter_le (fun x => (List.range k).all (fun j => gB l cell j x)) (lkL L)
 rw [lkL_len] at this
 exact this
theorem step_A {L : Nat} {l : List Ev} {cell : Int} {k : Nat} (h : acB (Tr.ev l k) cell = true) : (guL L l cell k).filter (fun x => !(!decide (Tr.hdC (l.take k) x = some (Tr.ev l k).who))) = guL L l cell (k + 1) := by
 rw [guL_succ]
 congr 1
 funext x
 unfold gB
 rw [if_pos h, Bool.not_not]
theorem step_B {L : Nat} {l : List Ev} {cell : Int} {k : Nat} (h : acB (Tr.ev l k) cell = false) (h9 : (Tr.ev l k).op = 9) (hb : decide (Tr.hdC (l.take k) (Tr.ev l k).a = some (Tr.ev l k).who) = false) : (guL L l cell k).filter (fun x => !(x == (Tr.ev l k).a)) = guL L l cell (k + 1) := by
 rw [guL_succ]
 congr 1
 funext x
 unfold gB
 rw [if_neg (by rw [h]; simp)]
 by_cases e : (Tr.ev l k).a = x
 ·subst e
  rw [if_pos ⟨h9, rfl⟩, hb]
  simp
 ·rw [if_neg (fun h => e h.2)]
  simp
  exact fun h => e h.symm
theorem step_C {L : Nat} {l : List Ev} {cell : Int} {k : Nat} (h : acB (Tr.ev l k) cell = false) (hb : (Tr.ev l k).op = 9 → decide (Tr.hdC (l.take k) (Tr.ev l k).a = some (Tr.ev l k).who) = true) : guL L l cell (k + 1) = guL L l cell k := by
 rw [guL_succ, List.filter_eq_self]
 intro x _
 unfold gB
 rw [if_neg (by rw [h]; simp)]
 split
 ·rename_i h2
  rw [← h2.2]
  exact hb h2.1
 ·rfl
set_option maxRecDepth 100000 in
set_option maxHeartbeats 4000000 in
theorem pisAcc (who op a va : Int) (sh : Bool) (w : World) : Calls Tryz.prog 25 #[.agg #[.int .i64 who, .int .i64 op, .int .i64 a, .int .i64 va, .bool sh]] w fun e w' => e = .returned (.bool (decide (op = 12 ∨ op = 13))) ∧ Below w.heap.size w w' := by
 have hA : Below w.heap.size w (w.alloc (.cells #[.int .i64 who, .int .i64 op, .int .i64 a, .int .i64 va, .bool sh] 35)) := (Below.refl _ _).alloc (Nat.le_refl _) _
 have N1 : Hid ((w.alloc (.cells #[.int .i64 who, .int .i64 op, .int .i64 a, .int .i64 va, .bool sh] 35)).heap[w.heap.size]? = some (.cells #[.int .i64 who, .int .i64 op, .int .i64 a, .int .i64 va, .bool sh] 35 (0, 0))) := heap_alloc_new w _
 have NB := TW.hide hA
 clear hA
 go_enter Tryz.func25, Tryz.ntmps25
 refine wp_seq_k fun K hK => ?_
 have HK := TW.hide hK
 clear hK
 go_wp2
 refine HK.out _ _ ?_
 clear HK K
 generalize w.alloc _ = X at *
 obtain ⟨x0, x1, x2, x3, x4⟩ := cellsY5 N1.out
 by_cases h12 : op = 12
 ·have k12 : (op == 12) = true := by simp [h12]
  have HD : Hid (decide (op = 12 ∨ op = 13) = true) := by show _ = _; simp [h12]
  rw [HD.out]
  clear h12 HD
  go_wp2
  go_ret
  exact ⟨rfl, NB.out⟩
 ·have k12 : (op == 12) = false := by simp [h12]
  have HD : Hid (decide (op = 12 ∨ op = 13) = (op == 13)) := by
   show _ = _
   by_cases h : op = 13 <;> simp [h, h12]
  rw [HD.out]
  clear h12 HD
  go_wp2
  go_ret
  exact ⟨rfl, NB.out⟩
set_option maxRecDepth 100000 in
set_option maxHeartbeats 4000000 in
theorem pclB (g1 g2 bm : Nat) (p : List Ev) (who op a va : Int) (sh : Bool) (x : Int) (w : World) (h1 : w.heap[g1]? = some (.cells #[.map (some bm)] 53 (0, 0))) (h2 : w.heap[g2]? = some (.cells #[.int .i64 who, .int .i64 op, .int .i64 a, .int .i64 va, .bool sh] 35 (0, 0))) (hm : MpI w bm p) (hx : i64 x) :
  Calls Tryz.prog 27 #[.int .i64 x, .pointer (some ⟨g1, 0, none⟩), .pointer (some ⟨g2, 0, none⟩)] w fun e w' => e = .returned (.bool (!decide (Tr.hdC p x = some who))) ∧ Below w.heap.size w w' := by
 have HBy := TW.hide (pby bm p who x w hm hx)
 have q1 : w.cell? ⟨g1, 0, none⟩ = some (.map (some bm)) := blk_cell h1 rfl
 obtain ⟨x0, x1, x2, x3, x4⟩ := cellsY5 h2
 generalize decide (Tr.hdC p x = some who) = dd at *
 clear h1 h2 hm
 go_enter Tryz.func27, Tryz.ntmps27
 go_wp2_with fail
 refine HBy.out.mono ?_
 rintro e1 w1 ⟨rfl, hb⟩
 go_wp2
 go_ret
 exact ⟨rfl, hb⟩
set_option maxRecDepth 100000 in
set_option maxHeartbeats 4000000 in
theorem pclC (g1 : Nat) (who op a va : Int) (sh : Bool) (x : Int) (w : World) (h2 : w.heap[g1]? = some (.cells #[.int .i64 who, .int .i64 op, .int .i64 a, .int .i64 va, .bool sh] 35 (0, 0))) :
  Calls Tryz.prog 29 #[.int .i64 x, .pointer (some ⟨g1, 0, none⟩)] w fun e w' => e = .returned (.bool (x == a)) ∧ Below w.heap.size w w' := by
 obtain ⟨x0, x1, x2, x3, x4⟩ := cellsY5 h2
 clear h2
 go_enter Tryz.func29, Tryz.ntmps29
 go_wp2
 go_ret
 exact ⟨rfl, Below.refl _ _⟩
/-- All blocks but two stand. -/
structure Gr2 (w w' : World) (a b : Nat) : Prop where
 os : w'.os = w.os
 tape : w'.tape = w.tape
 output : w'.output = w.output
 size : w.heap.size ≤ w'.heap.size
 block : ∀ k, k < w.heap.size → k ≠ a → k ≠ b → w'.heap[k]? = w.heap[k]?
theorem Gr2.refl (w : World) (a b : Nat) : Gr2 w w a b := ⟨rfl, rfl, rfl, Nat.le_refl _, fun _ _ _ _ => rfl⟩
theorem Gr2.below {w w' w'' : World} {a b : Nat} (h : Gr2 w w' a b) (hb : Below w'.heap.size w' w'') : Gr2 w w'' a b :=
 ⟨hb.os.trans h.os, hb.tape.trans h.tape, hb.output.trans h.output, Nat.le_trans h.size hb.size, fun k hk ha hb' => by rw [hb.block k (Nat.lt_of_lt_of_le hk h.size)]; exact h.block k hk ha hb'⟩
theorem Gr2.grown {w w' w'' : World} {a b c : Nat} (h : Gr2 w w' a b) (hg : w'.grownBy w'' (some c)) (hc : c = a ∨ c = b) : Gr2 w w'' a b :=
 ⟨hg.os.trans h.os, hg.tape.trans h.tape, hg.output.trans h.output, Nat.le_trans h.size hg.size, fun k hk ha hb' => by
  rw [hg.block k (Nat.lt_of_lt_of_le hk h.size) (fun e => by injection e with e; rcases hc with rfl | rfl; exact ha e; exact hb' e)]
  exact h.block k hk ha hb'⟩
theorem Gr2.to {B : Nat} {o w w' : World} {a b : Nat} (h : Gr2 w w' a b) (ho : Below B o w) (ha : B ≤ a) (hb : B ≤ b) (hB : B ≤ w.heap.size) : Below B o w' :=
 ⟨h.os.trans ho.os, h.tape.trans ho.tape, h.output.trans ho.output, Nat.le_trans ho.size h.size, fun k hk => by rw [h.block k (by omega) (by omega) (by omega)]; exact ho.block k hk⟩
theorem MpI.neR {w : World} {B bm b cap : Nat} {p : List Ev} {xs : List Int} (h : MpI w bm p) (hn : Nr B w b cap xs) : bm ≠ b := by
 rcases hn.2 with ⟨e, _⟩ | ⟨g, cap', cur, e, _, hh, _⟩
 ·cases e
 ·injection e with e
  injection e with e
  injection e with e
  subst e
  exact h.ne hh
end LW
end Go.Proofs.YtdjanbojhblijaaGreat
namespace Go.Proofs.YtdjanbojhblijaaGreat
open Go.RowKit
set_option linter.unusedVariables false
set_option linter.unusedSimpArgs false
namespace LW
open Mc
/-- What guards leaves. -/
def GuaQ (w : World) (L : Nat) (l : List Ev) (cell : Int) : Ending → World → Prop := fun e w' => Below w.heap.size w w' ∧ ((guT l cell l.length = true ∧ ∃ b, e = .returned (.slice (some ⟨b, 0, none⟩) (guL L l cell l.length).length L) ∧ Nr w.heap.size w' b L (guL L l cell l.length)) ∨ (guT l cell l.length = false ∧ e = .returned (.slice none 0 0)))
set_option maxRecDepth 100000 in
set_option maxHeartbeats 4000000 in
theorem pguards (s : Syst) (pa : Option Addr) (pc : Nat) (ra : Option Addr) (rc : Nat) (la : Option Addr) (lc : Nat) (l : List Ev) (rn : Int) (L : Nat) (cell : Int) (w : World) (hl : EvI w la lc l) (hL : s.locks = (L : Int)) (hL6 : L ≤ 64) (hln : l.length ≤ 40000) :
  Calls Tryz.prog 11 #[.agg #[.slice pa s.progs.length pc, .slice ra s.rooms.length rc, .int .i64 s.groups, .int .i64 s.locks, .int .i64 s.cells, .slice la l.length lc, .int .i64 rn], .int .i64 cell] w (GuaQ w L l cell) := by
 obtain ⟨POST, hP⟩ : ∃ Q : Ending → World → Prop, Q = GuaQ w L l cell := ⟨_, rfl⟩
 have HP := TW.hide hP
 rw [← hP]
 clear hP
 have HLk : Hid (∀ W, Calls Tryz.prog 24 #[.agg #[.slice pa s.progs.length pc, .slice ra s.rooms.length rc, .int .i64 s.groups, .int .i64 s.locks, .int .i64 s.cells, .slice la l.length lc, .int .i64 rn]] W fun e w' => ∃ b, e = .returned (.slice (some ⟨b, 0, none⟩) L L) ∧ Nr W.heap.size w' b L (lkL L) ∧ Below W.heap.size W w') := fun W => plocks s pa pc ra rc la lc l rn L W hL hL6
 have HEw := TW.hide hl
 clear hl hL
 have hmm := @run_makeMap Tryz.prog
 have hA : Below w.heap.size w (w.alloc (.cells #[.slice pa s.progs.length pc, .slice ra s.rooms.length rc, .int .i64 s.groups, .int .i64 s.locks, .int .i64 s.cells, .slice la l.length lc, .int .i64 rn] 43)) := (Below.refl _ _).alloc (Nat.le_refl _) _
 have N1 : Hid ((w.alloc (.cells #[.slice pa s.progs.length pc, .slice ra s.rooms.length rc, .int .i64 s.groups, .int .i64 s.locks, .int .i64 s.cells, .slice la l.length lc, .int .i64 rn] 43)).heap[w.heap.size]? = some (.cells #[.slice pa s.progs.length pc, .slice ra s.rooms.length rc, .int .i64 s.groups, .int .i64 s.locks, .int .i64 s.cells, .slice la l.length lc, .int .i64 rn] 43 (0, 0))) := heap_alloc_new w _
 have NB := TW.hide hA
 clear hA
 go_enter Tryz.func11, Tryz.ntmps11
 refine wp_seq_k fun K hK => ?_
 have HK := TW.hide hK
 clear hK
 go_wp2
 refine HK.out _ _ ?_
 clear HK K
 generalize w.alloc _ = X at *
 have HM0 := TW.hide (MpI.made X)
 have hA2 : Below X.heap.size X (X.alloc (.map #[] 0)) := (Below.refl _ _).alloc (Nat.le_refl _) _
 have N2 := TW.hide (blk_keep N1.out hA2)
 have NB2 : Hid (Below w.heap.size w (X.alloc (.map #[] 0))) := NB.out.trans (hA2.mono NB.out.size)
 have HbM : Hid (w.heap.size ≤ X.heap.size) := NB.out.size
 obtain ⟨s0, s1, s2, s3, s4, s5, s6⟩ := cellsY7 N2.out
 clear hA2 N1 NB
 refine wp_seq_k fun K hK => ?_
 have HK := TW.hide hK
 clear hK
 go_wp2_with fail
 refine (HLk.out _).mono ?_
 rintro e1 W1 ⟨bb, rfl, hN, hb⟩
 have HM1 := TW.hide (HM0.out.below hb)
 have N3 := TW.hide (blk_keep N2.out hb)
 have NB3 : Hid (Below w.heap.size w W1) := NB2.out.trans (hb.mono NB2.out.size)
 have HN1 : Hid (Nr w.heap.size W1 bb L (lkL L)) := own_base hN NB2.out.size
 clear hN hb HM0 N2 NB2 s0 s1 s2 s3 s4 s5 s6 hmm HLk
 generalize X.heap.size = bm at *
 have hA3 : Below W1.heap.size W1 (W1.alloc (.cells #[.map (some bm)] 53)) := (Below.refl _ _).alloc (Nat.le_refl _) _
 have HM2 := TW.hide (HM1.out.below hA3)
 have N4 := TW.hide (blk_keep N3.out hA3)
 have NB4 : Hid (Below w.heap.size w (W1.alloc (.cells #[.map (some bm)] 53))) := NB3.out.trans (hA3.mono NB3.out.size)
 have HN2 := TW.hide (HN1.out.below hA3)
 have N5 : Hid ((W1.alloc (.cells #[.map (some bm)] 53)).heap[W1.heap.size]? = some (.cells #[.map (some bm)] 53 (0, 0))) := heap_alloc_new W1 _
 have HNe : Hid (W1.heap.size ≠ bb) := fun e => by have := HN1.out.lt; omega
 clear hA3 HM1 N3 NB3 HN1
 have q2 : (W1.alloc (.cells #[.map (some bm)] 53)).cell? ⟨w.heap.size, 5, none⟩ = some (.slice la l.length lc) := blk_cell N4.out rfl
 go_wp2
 refine HK.out _ _ ?_
 clear HK K
 generalize W1.alloc (.cells #[.map (some bm)] 53) = X2 at *
 generalize W1.heap.size = g5 at *
 have HKp : Hid (∀ W, Gr2 X2 W bm bb → W.heap[g5]? = some (.cells #[.map (some bm)] 53 (0, 0)) ∧ EvI W la lc l ∧ Below w.heap.size w W) := fun W hW => by
  have kb : Below w.heap.size w W := hW.to NB4.out HbM.out HN2.out.le NB4.out.size
  refine ⟨?_, HEw.out.below kb, kb⟩
  rw [hW.block _ (blk_lt N5.out) (fun e => HM2.out.ne N5.out e.symm) HNe.out]
  exact N5.out
 clear N4 N5 NB4 HEw HNe
 have HG0 := TW.hide (Gr2.refl X2 bm bb)
 refine wp_seq_k fun K hK => ?_
 have HK := TW.hide hK
 clear hK
 go_wp2
 clear q2
 go_loopw [6, 7, 16] (fun v tb i wr => ∃ k : Nat, k ≤ l.length ∧ i = .int .i64 (k : Int) ∧ tb = .bool (guT l cell k) ∧ v = .slice (some ⟨bb, 0, none⟩) (guL L l cell k).length L ∧ Hid (MpI wr bm (l.take k)) ∧ Hid (Nr w.heap.size wr bb L (guL L l cell k)) ∧ Hid (Gr2 X2 wr bm bb)) (fun v tb i wr => l.length - (intOf i).toNat)
 case atStart => exact ⟨0, Nat.zero_le _, rfl, rfl, by rw [guL_zero, lkL_len], HM2, by rw [guL_zero]; exact HN2, HG0⟩
 case round =>
  clear HM2 HN2 HG0
  obtain ⟨k, hk, rfl, rfl, rfl, HM, HN, HG⟩ := hrel
  obtain ⟨n5, hE, hB⟩ := HKp.out wr HG.out
  by_cases hlt : k < l.length
  ·have HLT := TW.hide hlt
   obtain ⟨b, off, who, op, a, va, sh, hla, hev, iw, io, ia, iv, x0, x1, x2, x3, x4⟩ := hE.get k hlt
   subst hla
   have hk1 : (k : Int) < (l.length : Int) := by omega
   have hk0 : (0 : Int) ≤ (k : Int) := by omega
   have hk4 : k + 1 ≤ 40000 := by omega
   have hAl : Below wr.heap.size wr ((wr.alloc (.cells #[.int .i64 0, .int .i64 0, .int .i64 0, .int .i64 0, .bool false] 35)).setRow wr.heap.size #[.int .i64 who, .int .i64 op, .int .i64 a, .int .i64 va, .bool sh]) := below_setRow ((Below.refl _ _).alloc (Nat.le_refl _) _) (Nat.le_refl _)
   have HM1 := TW.hide (HM.out.below hAl)
   have HN1 := TW.hide (HN.out.below hAl)
   have HEb : Hid (((wr.alloc (.cells #[.int .i64 0, .int .i64 0, .int .i64 0, .int .i64 0, .bool false] 35)).setRow wr.heap.size #[.int .i64 who, .int .i64 op, .int .i64 a, .int .i64 va, .bool sh]).heap[wr.heap.size]? = some (.cells #[.int .i64 who, .int .i64 op, .int .i64 a, .int .i64 va, .bool sh] 35 (0, 0))) := setRow_heap _ _ _ _ _ _ (heap_alloc_new wr _)
   have HG1 := TW.hide (HG.out.below hAl)
   have HTk : Hid (∀ W, MpI W bm (l.take k) → Calls Tryz.prog 30 #[.map (some bm), .agg #[.int .i64 who, .int .i64 op, .int .i64 a, .int .i64 va, .bool sh]] W fun e w' => e = .returned (.tuple #[]) ∧ MpI w' bm (l.take k ++ [⟨who, op, a, va, sh⟩]) ∧ W.grownBy w' (some bm)) := fun W hW => phtake bm (l.take k) who op a va sh W hW iw ia (by simp; omega)
   have HBy : Hid (∀ W, MpI W bm (l.take k) → Calls Tryz.prog 28 #[.map (some bm), .int .i64 who, .int .i64 a] W fun e w' => e = .returned (.bool (decide (Tr.hdC (l.take k) a = some who))) ∧ Below W.heap.size W w') := fun W hW => pby bm (l.take k) who a W hW ia
   have HAc : Hid (∀ W, Calls Tryz.prog 25 #[.agg #[.int .i64 who, .int .i64 op, .int .i64 a, .int .i64 va, .bool sh]] W fun e w' => e = .returned (.bool (decide (op = 12 ∨ op = 13))) ∧ Below W.heap.size W w') := fun W => pisAcc who op a va sh W
   have HT1 : Hid (l.take (k + 1) = l.take k ++ [⟨who, op, a, va, sh⟩]) := by
    show _ = _
    rw [take_ev l k hlt, hev]
   have HTs := TW.hide (guT_succ l cell k)
   have HAB : Hid (acB (Tr.ev l k) cell = (decide (op = 12 ∨ op = 13) && (a == cell))) := by
    show _ = _
    rw [hev]
    unfold acB
    by_cases h1 : op = 12 ∨ op = 13 <;> by_cases h2 : a = cell <;> simp [h1, h2]
   have HEv := TW.hide hev
   obtain ⟨ac, hac⟩ : ∃ ac, decide (op = 12 ∨ op = 13) = ac := ⟨_, rfl⟩
   have HAC : Hid (ac = true ↔ (op = 12 ∨ op = 13)) := by show _ ↔ _; rw [← hac]; simp
   rw [hac] at HAc HAB
   have hgl := guL_len L l cell k
   clear hAl hev iw io ia iv hlt hac n5 hE hB HM HN HG
   go_wp2_with (first | (refine wpList_store_row (by rfl) 35 _ _ (by rfl) wr.heap.size #[.int .i64 who, .int .i64 op, .int .i64 a, .int .i64 va, .bool sh] (by rfl) (by rfl) 35 _ (heap_alloc_new wr _) (by kernel_rfl) (by rfl) (by simp [Value.oneCell']) ?_; generalize World.setRow _ _ _ = X4 at *; generalize wr.heap.size = ge at *; clear x0 x1 x2 x3 x4; obtain ⟨x0, x1, x2, x3, x4⟩ := cellsY5 HEb.out) | fail)
   refine (HAc.out X4).mono ?_
   rintro e5 W5 ⟨rfl, hb5⟩
   have HM5 := TW.hide (HM1.out.below hb5)
   have HN5 := TW.hide (HN1.out.below hb5)
   have HG5 := TW.hide (HG1.out.below hb5)
   have HE5 := TW.hide (blk_keep HEb.out hb5)
   clear hb5 x0 x1 x2 x3 x4 HM1 HN1 HG1 HEb HAc
   obtain ⟨x0, x1, x2, x3, x4⟩ := cellsY5 HE5.out
   by_cases hA : ac = true ∧ a = cell
   ·obtain ⟨rfl, hac⟩ := hA
    have kc : (a == cell) = true := by simp [hac]
    have HAt : Hid (acB (Tr.ev l k) cell = true) := by show _ = _; rw [HAB.out, kc]; rfl
    have HD : Hid (Calls Tryz.prog 26 #[.slice (some ⟨bb, 0, none⟩) (guL L l cell k).length L, .func (.func 27) #[] #[.pointer (some ⟨g5, 0, none⟩), .pointer (some ⟨ge, 0, none⟩)]] W5 (DelQ w.heap.size W5 bb L ((guL L l cell k).filter (fun x => !(!decide (Tr.hdC (l.take k) x = some who)))))) := delb g5 ge w.heap.size bb L (guL L l cell k) (fun x => !decide (Tr.hdC (l.take k) x = some who)) W5 HN5.out (by omega) (i64_in hL6 (guL_mem L l cell k)) (fun x W hx hW => by
     have hne : ge ≠ bb := fun e => by
      have := HN5.out
      subst e
      rcases this.2 with ⟨e, _⟩ | ⟨g, cap', cur, e, _, hh, _⟩
      ·cases e
      ·injection e with e
       injection e with e
       injection e with e
       subst e
       have := hh.symm.trans HE5.out
       simp at this
     have h5 : W.heap[g5]? = some (.cells #[.map (some bm)] 53 (0, 0)) := (HKp.out W (HG5.out.grown hW (.inr rfl))).1
     exact pclB g5 ge bm (l.take k) who op a va sh x W h5 (by rw [hW.block _ (blk_lt HE5.out) (fun e => hne (by injection e))]; exact HE5.out) (HM5.out.keep (hW.block _ HM5.out.lt (fun e => (HM5.out.neR HN5.out) (by injection e)))) hx)
    have HSt : Hid ((guL L l cell k).filter (fun x => !(!decide (Tr.hdC (l.take k) x = some who))) = guL L l cell (k + 1)) := by
     have := step_A (L := L) HAt.out
     rw [HEv.out] at this
     exact this
    have HTt : Hid (guT l cell (k + 1) = true) := by show _ = _; rw [HTs.out, HAt.out, Bool.or_true]
    rw [HSt.out] at HD
    clear hac HAB HAC HAt HSt HBy hgl HTs HEv
    go_wp2_with fail
    refine HD.out.mono ?_
    rintro e6 W6 ⟨rfl, hN6, hg6⟩
    have HM6 := TW.hide (HM5.out.keep (hg6.block _ HM5.out.lt (fun e => (HM5.out.neR HN5.out) (by injection e))))
    have HG6 := TW.hide (HG5.out.grown hg6 (.inr rfl))
    have HN6 := TW.hide hN6
    have HE6 : Hid (W6.heap[ge]? = some (.cells #[.int .i64 who, .int .i64 op, .int .i64 a, .int .i64 va, .bool sh] 35 (0, 0))) := by
     show _ = _
     rw [hg6.block _ (blk_lt HE5.out) (fun e => by
      injection e with e
      subst e
      rcases HN5.out.2 with ⟨e, _⟩ | ⟨g, cap', cur, e, _, hh, _⟩
      ·cases e
      ·injection e with e
       injection e with e
       injection e with e
       subst e
       have := hh.symm.trans HE5.out
       simp at this)]
     exact HE5.out
    clear hN6 hg6 HD HM5 HN5 HG5 HE5 x0 x1 x2 x3 x4
    obtain ⟨x0, x1, x2, x3, x4⟩ := cellsY5 HE6.out
    have hq5 : W6.cell? ⟨g5, 0, none⟩ = some (.map (some bm)) := blk_cell (HKp.out _ HG6.out).1 rfl
    have HTk' := TW.hide (HTk.out W6 HM6.out)
    go_wp2_with fail
    refine HTk'.out.mono ?_
    rintro e9 W9 ⟨rfl, hM9, hg9⟩
    rw [← HT1.out] at hM9
    have HM9 := TW.hide hM9
    have HG9 := TW.hide (HG6.out.grown hg9 (.inl rfl))
    have HN9 := TW.hide (HN6.out.keep (hg9.block _ HN6.out.lt (fun e => by injection e with e; exact (HM6.out.neR HN6.out) e.symm)))
    clear hM9 hg9 hq5 HTk HTk' HT1
    go_wp2
    go_roundw
    case rel => exact ⟨k + 1, HLT.out, by go_num, by rw [HTt.out], rfl, HM9, HN9, HG9⟩
    case measure => simp [intOf]; have := HLT.out; omega
   ·have HAf : Hid (acB (Tr.ev l k) cell = false) := by
     show _ = _
     rw [HAB.out]
     cases ac with
     | false => rfl
     | true =>
      have : ¬ a = cell := fun h => hA ⟨rfl, h⟩
      simp [this]
    have HTt : Hid (guT l cell (k + 1) = guT l cell k) := by show _ = _; rw [HTs.out, HAf.out, Bool.or_false]
    have HCo : Hid (ac = false ∨ (ac = true ∧ (a == cell) = false)) := by
     cases ac with
     | false => exact .inl rfl
     | true => exact .inr ⟨rfl, by simp; exact fun h => hA ⟨rfl, h⟩⟩
    clear hA HTs HAB HAC
    have hq5 : W5.cell? ⟨g5, 0, none⟩ = some (.map (some bm)) := blk_cell (HKp.out _ HG5.out).1 rfl
    by_cases h9 : op = 9
    ·have k9 : (op == 9) = true := by simp [h9]
     have HBk := TW.hide (HBy.out W5 HM5.out)
     obtain ⟨by_, hby⟩ : ∃ by_, decide (Tr.hdC (l.take k) a = some who) = by_ := ⟨_, rfl⟩
     rw [hby] at HBk
     have HBY := TW.hide hby
     have H9 := TW.hide h9
     clear hby h9 HBy
     have HTail : Hid True := trivial
     clear HTail
     rcases HCo.out with rfl | ⟨rfl, kc⟩
     ·clear HCo
      go_wp2_with fail
      refine HBk.out.mono ?_
      rintro e6 W6 ⟨rfl, hb6⟩
      have HM6 := TW.hide (HM5.out.below hb6)
      have HN6 := TW.hide (HN5.out.below hb6)
      have HG6 := TW.hide (HG5.out.below hb6)
      have HE6 := TW.hide (blk_keep HE5.out hb6)
      clear hb6 x0 x1 x2 x3 x4 HM5 HN5 HG5 HE5 HBk hq5
      obtain ⟨x0, x1, x2, x3, x4⟩ := cellsY5 HE6.out
      cases by_ with
      | true =>
       have HSt : Hid (guL L l cell (k + 1) = guL L l cell k) := step_C HAf.out (fun _ => by rw [HEv.out]; exact HBY.out)
       clear HAf HEv hgl HBY H9
       have hq5 : W6.cell? ⟨g5, 0, none⟩ = some (.map (some bm)) := blk_cell (HKp.out _ HG6.out).1 rfl
       have HTk' := TW.hide (HTk.out W6 HM6.out)
       go_wp2_with fail
       refine HTk'.out.mono ?_
       rintro e9 W9 ⟨rfl, hM9, hg9⟩
       rw [← HT1.out] at hM9
       have HM9 := TW.hide hM9
       have HG9 := TW.hide (HG6.out.grown hg9 (.inl rfl))
       have HN9 := TW.hide (HN6.out.keep (hg9.block _ HN6.out.lt (fun e => by injection e with e; exact (HM6.out.neR HN6.out) e.symm)))
       clear hM9 hg9 hq5 HTk HTk' HT1
       go_wp2
       go_roundw
       case rel => exact ⟨k + 1, HLT.out, by go_num, by rw [HTt.out], by rw [HSt.out], HM9, by rw [HSt.out]; exact HN9, HG9⟩
       case measure => simp [intOf]; have := HLT.out; omega
      | false =>
       have HSt : Hid ((guL L l cell k).filter (fun x => !(x == a)) = guL L l cell (k + 1)) := by
        have := step_B (L := L) HAf.out (by rw [HEv.out]; exact H9.out) (by rw [HEv.out]; exact HBY.out)
        rw [HEv.out] at this
        exact this
       have HD : Hid (Calls Tryz.prog 26 #[.slice (some ⟨bb, 0, none⟩) (guL L l cell k).length L, .func (.func 29) #[] #[.pointer (some ⟨ge, 0, none⟩)]] W6 (DelQ w.heap.size W6 bb L ((guL L l cell k).filter (fun x => !(x == a))))) := delc ge w.heap.size bb L (guL L l cell k) (fun x => x == a) W6 HN6.out (by omega) (i64_in hL6 (guL_mem L l cell k)) (fun x W hx hW => by
        have hne : ge ≠ bb := fun e => by
         have := HN6.out
         subst e
         rcases this.2 with ⟨e, _⟩ | ⟨g, cap', cur, e, _, hh, _⟩
         ·cases e
         ·injection e with e
          injection e with e
          injection e with e
          subst e
          have := hh.symm.trans HE6.out
          simp at this
        exact pclC ge who op a va sh x W (by rw [hW.block _ (blk_lt HE6.out) (fun e => hne (by injection e))]; exact HE6.out))
       rw [HSt.out] at HD
       clear HAf HEv hgl HBY H9 HSt
       go_wp2_with fail
       refine HD.out.mono ?_
       rintro e7 W7 ⟨rfl, hN7, hg7⟩
       have HM7 := TW.hide (HM6.out.keep (hg7.block _ HM6.out.lt (fun e => (HM6.out.neR HN6.out) (by injection e))))
       have HG7 := TW.hide (HG6.out.grown hg7 (.inr rfl))
       have HN7 := TW.hide hN7
       have HE7 : Hid (W7.heap[ge]? = some (.cells #[.int .i64 who, .int .i64 op, .int .i64 a, .int .i64 va, .bool sh] 35 (0, 0))) := by
        show _ = _
        rw [hg7.block _ (blk_lt HE6.out) (fun e => by
         injection e with e
         subst e
         rcases HN6.out.2 with ⟨e, _⟩ | ⟨g, cap', cur, e, _, hh, _⟩
         ·cases e
         ·injection e with e
          injection e with e
          injection e with e
          subst e
          have := hh.symm.trans HE6.out
          simp at this)]
        exact HE6.out
       clear hN7 hg7 HD HM6 HN6 HG6 HE6 x0 x1 x2 x3 x4
       obtain ⟨x0, x1, x2, x3, x4⟩ := cellsY5 HE7.out
       have hq5 : W7.cell? ⟨g5, 0, none⟩ = some (.map (some bm)) := blk_cell (HKp.out _ HG7.out).1 rfl
       have HTk' := TW.hide (HTk.out W7 HM7.out)
       go_wp2_with fail
       refine HTk'.out.mono ?_
       rintro e9 W9 ⟨rfl, hM9, hg9⟩
       rw [← HT1.out] at hM9
       have HM9 := TW.hide hM9
       have HG9 := TW.hide (HG7.out.grown hg9 (.inl rfl))
       have HN9 := TW.hide (HN7.out.keep (hg9.block _ HN7.out.lt (fun e => by injection e with e; exact (HM7.out.neR HN7.out) e.symm)))
       clear hM9 hg9 hq5 HTk HTk' HT1
       go_wp2
       go_roundw
       case rel => exact ⟨k + 1, HLT.out, by go_num, by rw [HTt.out], rfl, HM9, HN9, HG9⟩
       case measure => simp [intOf]; have := HLT.out; omega
     ·clear HCo
      go_wp2_with fail
      refine HBk.out.mono ?_
      rintro e6 W6 ⟨rfl, hb6⟩
      have HM6 := TW.hide (HM5.out.below hb6)
      have HN6 := TW.hide (HN5.out.below hb6)
      have HG6 := TW.hide (HG5.out.below hb6)
      have HE6 := TW.hide (blk_keep HE5.out hb6)
      clear hb6 x0 x1 x2 x3 x4 HM5 HN5 HG5 HE5 HBk hq5
      obtain ⟨x0, x1, x2, x3, x4⟩ := cellsY5 HE6.out
      cases by_ with
      | true =>
       have HSt : Hid (guL L l cell (k + 1) = guL L l cell k) := step_C HAf.out (fun _ => by rw [HEv.out]; exact HBY.out)
       clear HAf HEv hgl HBY H9
       have hq5 : W6.cell? ⟨g5, 0, none⟩ = some (.map (some bm)) := blk_cell (HKp.out _ HG6.out).1 rfl
       have HTk' := TW.hide (HTk.out W6 HM6.out)
       go_wp2_with fail
       refine HTk'.out.mono ?_
       rintro e9 W9 ⟨rfl, hM9, hg9⟩
       rw [← HT1.out] at hM9
       have HM9 := TW.hide hM9
       have HG9 := TW.hide (HG6.out.grown hg9 (.inl rfl))
       have HN9 := TW.hide (HN6.out.keep (hg9.block _ HN6.out.lt (fun e => by injection e with e; exact (HM6.out.neR HN6.out) e.symm)))
       clear hM9 hg9 hq5 HTk HTk' HT1
       go_wp2
       go_roundw
       case rel => exact ⟨k + 1, HLT.out, by go_num, by rw [HTt.out], by rw [HSt.out], HM9, by rw [HSt.out]; exact HN9, HG9⟩
       case measure => simp [intOf]; have := HLT.out; omega
      | false =>
       have HSt : Hid ((guL L l cell k).filter (fun x => !(x == a)) = guL L l cell (k + 1)) := by
        have := step_B (L := L) HAf.out (by rw [HEv.out]; exact H9.out) (by rw [HEv.out]; exact HBY.out)
        rw [HEv.out] at this
        exact this
       have HD : Hid (Calls Tryz.prog 26 #[.slice (some ⟨bb, 0, none⟩) (guL L l cell k).length L, .func (.func 29) #[] #[.pointer (some ⟨ge, 0, none⟩)]] W6 (DelQ w.heap.size W6 bb L ((guL L l cell k).filter (fun x => !(x == a))))) := delc ge w.heap.size bb L (guL L l cell k) (fun x => x == a) W6 HN6.out (by omega) (i64_in hL6 (guL_mem L l cell k)) (fun x W hx hW => by
        have hne : ge ≠ bb := fun e => by
         have := HN6.out
         subst e
         rcases this.2 with ⟨e, _⟩ | ⟨g, cap', cur, e, _, hh, _⟩
         ·cases e
         ·injection e with e
          injection e with e
          injection e with e
          subst e
          have := hh.symm.trans HE6.out
          simp at this
        exact pclC ge who op a va sh x W (by rw [hW.block _ (blk_lt HE6.out) (fun e => hne (by injection e))]; exact HE6.out))
       rw [HSt.out] at HD
       clear HAf HEv hgl HBY H9 HSt
       go_wp2_with fail
       refine HD.out.mono ?_
       rintro e7 W7 ⟨rfl, hN7, hg7⟩
       have HM7 := TW.hide (HM6.out.keep (hg7.block _ HM6.out.lt (fun e => (HM6.out.neR HN6.out) (by injection e))))
       have HG7 := TW.hide (HG6.out.grown hg7 (.inr rfl))
       have HN7 := TW.hide hN7
       have HE7 : Hid (W7.heap[ge]? = some (.cells #[.int .i64 who, .int .i64 op, .int .i64 a, .int .i64 va, .bool sh] 35 (0, 0))) := by
        show _ = _
        rw [hg7.block _ (blk_lt HE6.out) (fun e => by
         injection e with e
         subst e
         rcases HN6.out.2 with ⟨e, _⟩ | ⟨g, cap', cur, e, _, hh, _⟩
         ·cases e
         ·injection e with e
          injection e with e
          injection e with e
          subst e
          have := hh.symm.trans HE6.out
          simp at this)]
        exact HE6.out
       clear hN7 hg7 HD HM6 HN6 HG6 HE6 x0 x1 x2 x3 x4
       obtain ⟨x0, x1, x2, x3, x4⟩ := cellsY5 HE7.out
       have hq5 : W7.cell? ⟨g5, 0, none⟩ = some (.map (some bm)) := blk_cell (HKp.out _ HG7.out).1 rfl
       have HTk' := TW.hide (HTk.out W7 HM7.out)
       go_wp2_with fail
       refine HTk'.out.mono ?_
       rintro e9 W9 ⟨rfl, hM9, hg9⟩
       rw [← HT1.out] at hM9
       have HM9 := TW.hide hM9
       have HG9 := TW.hide (HG7.out.grown hg9 (.inl rfl))
       have HN9 := TW.hide (HN7.out.keep (hg9.block _ HN7.out.lt (fun e => by injection e with e; exact (HM7.out.neR HN7.out) e.symm)))
       clear hM9 hg9 hq5 HTk HTk' HT1
       go_wp2
       go_roundw
       case rel => exact ⟨k + 1, HLT.out, by go_num, by rw [HTt.out], rfl, HM9, HN9, HG9⟩
       case measure => simp [intOf]; have := HLT.out; omega
    ·have k9 : (op == 9) = false := by simp [h9]
     have HSt : Hid (guL L l cell (k + 1) = guL L l cell k) := step_C HAf.out (fun h => by rw [HEv.out] at h; exact absurd h h9)
     have HN9' : Hid (Nr w.heap.size W5 bb L (guL L l cell (k + 1))) := by rw [HSt.out]; exact HN5.out
     clear h9 HBy HAf HEv hgl hq5
     rcases HCo.out with rfl | ⟨rfl, kc⟩
     ·clear HCo
      have hq5 : W5.cell? ⟨g5, 0, none⟩ = some (.map (some bm)) := blk_cell (HKp.out _ HG5.out).1 rfl
      have HTk' := TW.hide (HTk.out W5 HM5.out)
      go_wp2_with fail
      refine HTk'.out.mono ?_
      rintro e9 W9 ⟨rfl, hM9, hg9⟩
      rw [← HT1.out] at hM9
      have HM9 := TW.hide hM9
      have HG9 := TW.hide (HG5.out.grown hg9 (.inl rfl))
      have HN9 := TW.hide (HN5.out.keep (hg9.block _ HN5.out.lt (fun e => by injection e with e; exact (HM5.out.neR HN5.out) e.symm)))
      clear hM9 hg9 hq5 HTk HTk' HT1
      go_wp2
      go_roundw
      case rel => exact ⟨k + 1, HLT.out, by go_num, by rw [HTt.out], by rw [HSt.out], HM9, by rw [HSt.out]; exact HN9, HG9⟩
      case measure => simp [intOf]; have := HLT.out; omega
     ·clear HCo
      have hq5 : W5.cell? ⟨g5, 0, none⟩ = some (.map (some bm)) := blk_cell (HKp.out _ HG5.out).1 rfl
      have HTk' := TW.hide (HTk.out W5 HM5.out)
      go_wp2_with fail
      refine HTk'.out.mono ?_
      rintro e9 W9 ⟨rfl, hM9, hg9⟩
      rw [← HT1.out] at hM9
      have HM9 := TW.hide hM9
      have HG9 := TW.hide (HG5.out.grown hg9 (.inl rfl))
      have HN9 := TW.hide (HN5.out.keep (hg9.block _ HN5.out.lt (fun e => by injection e with e; exact (HM5.out.neR HN5.out) e.symm)))
      clear hM9 hg9 hq5 HTk HTk' HT1
      go_wp2
      go_roundw
      case rel => exact ⟨k + 1, HLT.out, by go_num, by rw [HTt.out], by rw [HSt.out], HM9, by rw [HSt.out]; exact HN9, HG9⟩
      case measure => simp [intOf]; have := HLT.out; omega
  ·have hkn : l.length = k := by omega
   have kk : ((k : Int) < (l.length : Int)) = False := by simp; omega
   have HB := TW.hide hB
   have HPt : Hid (guT l cell k = true → POST (.returned (.slice (some ⟨bb, 0, none⟩) (guL L l cell k).length L)) wr) := fun h => by rw [HP.out]; unfold GuaQ; rw [hkn]; exact ⟨HB.out, .inl ⟨h, bb, rfl, HN.out⟩⟩
   have HPf : Hid (guT l cell k = false → POST (.returned (.slice none 0 0)) wr) := fun h => by rw [HP.out]; unfold GuaQ; rw [hkn]; exact ⟨HB.out, .inr ⟨h, rfl⟩⟩
   clear hkn hE hB n5 HM HN HG hlt hk
   generalize guT l cell k = tt at *
   cases tt with
   | true =>
    have HR := TW.hide (HPt.out rfl)
    clear HPt HPf
    go_wp2
    refine HK.out _ _ ?_
    go_wp2
    first | exact HR.out | exact ⟨rfl, HR.out⟩
   | false =>
    have HR := TW.hide (HPf.out rfl)
    clear HPt HPf
    go_wp2
    refine HK.out _ _ ?_
    go_wp2
    first | exact HR.out | exact ⟨rfl, HR.out⟩
end LW
end Go.Proofs.YtdjanbojhblijaaGreat
namespace Go.Proofs.YtdjanbojhblijaaGreat
open Go.RowKit
set_option linter.unusedVariables false
set_option linter.unusedSimpArgs false
namespace LW
open Mc
theorem nr_nr {B : Nat} {W : World} {b cap : Nat} {xs : List Int} (h : Nr B W b cap xs) : NR W (some ⟨b, 0, none⟩) xs := .inr ⟨b, 0, rfl, fun j hj => by rw [Nat.zero_add]; exact h.get j hj⟩
/-- What Guards answers: the error; the locks. -/
def gdE (s : Syst) (l : List Ev) (c : Int) : Int := if (Tr.vR s l).2.2 = 0 then (if 0 ≤ c ∧ c < s.cells then 0 else 1) else (Tr.vR s l).2.2
def gdA (s : Syst) (l : List Ev) (c : Int) : List Int := if gdE s l c = 0 then (if guT l c l.length then guL s.locks.toNat l c l.length else []) else []
set_option maxRecDepth 100000 in
set_option maxHeartbeats 4000000 in
theorem ptguards (s : Syst) (pa : Option Addr) (pc : Nat) (ra : Option Addr) (rc : Nat) (la : Option Addr) (lc : Nat) (l : List Ev) (i : Int) (w : World) (hs : SyI w s pa ra) (hl : EvI w la lc l) :
  Calls Tryz.prog 6 #[.agg #[.slice pa s.progs.length pc, .slice ra s.rooms.length rc, .int .i64 s.groups, .int .i64 s.locks, .int .i64 s.cells], .slice la l.length lc, .int .i64 i] w fun e w' => ∃ a c, e = .returned (.tuple #[.slice a (gdA s l i).length c, .int .i64 (gdE s l i)]) ∧ NR w' a (gdA s l i) ∧ Below w.heap.size w w' := by
 obtain ⟨POST, hP⟩ : ∃ Q : Ending → World → Prop, Q = fun e w' => ∃ a c, e = .returned (.tuple #[.slice a (gdA s l i).length c, .int .i64 (gdE s l i)]) ∧ NR w' a (gdA s l i) ∧ Below w.heap.size w w' := ⟨_, rfl⟩
 obtain ⟨va, vn, ve, hV⟩ : ∃ a n e, Tr.vR s l = (a, n, e) := ⟨_, _, _, rfl⟩
 have HRd : Hid (∀ W, Below w.heap.size w W → Calls Tryz.prog 9 #[.agg #[.slice pa s.progs.length pc, .slice ra s.rooms.length rc, .int .i64 s.groups, .int .i64 s.locks, .int .i64 s.cells], .slice la l.length lc] W fun e w' => ∃ hc, e = .returned (.tuple #[.agg hc, .int .i64 va, .int .i64 ve]) ∧ (ve = 0 → hc = #[.slice pa s.progs.length pc, .slice ra s.rooms.length rc, .int .i64 s.groups, .int .i64 s.locks, .int .i64 s.cells, .slice la l.length lc, .int .i64 (Tr.rnC l : Int)]) ∧ (ve ≠ 0 → hc = #[.slice none 0 0, .slice none 0 0, .int .i64 0, .int .i64 0, .int .i64 0, .slice none 0 0, .int .i64 0]) ∧ Below W.heap.size W w') := fun W hW => (pread s pa pc ra rc la lc l W (hs.below hW) (hl.below hW)).mono (fun e w' h => by unfold ReaQ at h; rw [hV] at h; exact h)
 have HOk : Hid (ve = 0 → Ok s ∧ l.length ≤ 40000 ∧ Tr.Gd s l l.length) := fun h => by
  have h2 := Tr.vR_ok (s := s) (l := l) (by rw [hV]; exact h)
  exact ⟨h2.1, h2.2.1, h2.2.2.1⟩
 have HPe : Hid (ve ≠ 0 → ∀ W, Below w.heap.size w W → POST (.returned (.tuple #[.slice none 0 0, .int .i64 ve])) W) := fun h W hW => by
  rw [hP]
  have h1 : gdE s l i = ve := by unfold gdE; rw [hV]; exact if_neg h
  have h2 : gdA s l i = [] := by unfold gdA; rw [h1, if_neg h]
  rw [h1, h2]
  exact ⟨none, 0, rfl, .inl rfl, hW⟩
 have HPa : Hid (ve = 0 → ¬ (0 ≤ i ∧ i < s.cells) → ∀ W, Below w.heap.size w W → POST (.returned (.tuple #[.slice none 0 0, .int .i64 1])) W) := fun h hi W hW => by
  rw [hP]
  have h1 : gdE s l i = 1 := by unfold gdE; rw [hV]; dsimp only; rw [if_pos h, if_neg hi]
  have h2 : gdA s l i = [] := by unfold gdA; rw [h1]; exact if_neg (by decide)
  rw [h1, h2]
  exact ⟨none, 0, rfl, .inl rfl, hW⟩
 have HPo : Hid (ve = 0 → 0 ≤ i ∧ i < s.cells → ∀ (b c : Nat) W, guT l i l.length = true → Nr w.heap.size W b c (guL s.locks.toNat l i l.length) → Below w.heap.size w W → POST (.returned (.tuple #[.slice (some ⟨b, 0, none⟩) (guL s.locks.toNat l i l.length).length c, .int .i64 0])) W) := fun h hi b c W ht hN hW => by
  rw [hP]
  have h1 : gdE s l i = 0 := by unfold gdE; rw [hV]; dsimp only; rw [if_pos h, if_pos hi]
  have h2 : gdA s l i = guL s.locks.toNat l i l.length := by unfold gdA; rw [h1, if_pos rfl, if_pos ht]
  rw [h1, h2]
  exact ⟨_, c, rfl, nr_nr hN, hW⟩
 have HPn : Hid (ve = 0 → 0 ≤ i ∧ i < s.cells → ∀ W, guT l i l.length = false → Below w.heap.size w W → POST (.returned (.tuple #[.slice none 0 0, .int .i64 0])) W) := fun h hi W ht hW => by
  rw [hP]
  have h1 : gdE s l i = 0 := by unfold gdE; rw [hV]; dsimp only; rw [if_pos h, if_pos hi]
  have h2 : gdA s l i = [] := by unfold gdA; rw [h1, if_pos rfl, ht]; rfl
  rw [h1, h2]
  exact ⟨none, 0, rfl, .inl rfl, hW⟩
 rw [← hP]
 have HEw := TW.hide hl
 clear hP hs hl hV
 have hA : Below w.heap.size w (w.alloc (.cells #[.slice pa s.progs.length pc, .slice ra s.rooms.length rc, .int .i64 s.groups, .int .i64 s.locks, .int .i64 s.cells] 25)) := (Below.refl _ _).alloc (Nat.le_refl _) _
 have N1 : Hid ((w.alloc (.cells #[.slice pa s.progs.length pc, .slice ra s.rooms.length rc, .int .i64 s.groups, .int .i64 s.locks, .int .i64 s.cells] 25)).heap[w.heap.size]? = some (.cells #[.slice pa s.progs.length pc, .slice ra s.rooms.length rc, .int .i64 s.groups, .int .i64 s.locks, .int .i64 s.cells] 25 (0, 0))) := heap_alloc_new w _
 have NB := TW.hide hA
 clear hA
 go_enter Tryz.func6, Tryz.ntmps6
 refine wp_seq_k fun K hK => ?_
 have HK := TW.hide hK
 clear hK
 go_wp2
 refine HK.out _ _ ?_
 clear HK K
 generalize w.alloc _ = X at *
 obtain ⟨s0, s1, s2, s3, s4⟩ := cellsY5 N1.out
 go_wp2_with fail
 refine (HRd.out X NB.out).mono ?_
 rintro e1 W1 ⟨hc, rfl, h1, h2, hb⟩
 have NB1 : Hid (Below w.heap.size w W1) := NB.out.trans (hb.mono NB.out.size)
 have NS := TW.hide (blk_keep N1.out hb)
 clear hb NB N1 s0 s1 s2 s3 s4 HRd
 by_cases he : ve = 0
 ·obtain rfl := h1 he
  obtain ⟨ho, hn, hg⟩ := HOk.out he
  have NB2 : Hid (Below w.heap.size w ((W1.alloc (.cells #[.slice none 0 0, .slice none 0 0, .int .i64 0, .int .i64 0, .int .i64 0, .slice none 0 0, .int .i64 0] 43)).setRow W1.heap.size #[.slice pa s.progs.length pc, .slice ra s.rooms.length rc, .int .i64 s.groups, .int .i64 s.locks, .int .i64 s.cells, .slice la l.length lc, .int .i64 (Tr.rnC l : Int)])) := below_setRow (NB1.out.alloc NB1.out.size _) NB1.out.size
  have hA_ : Below W1.heap.size W1 ((W1.alloc (.cells #[.slice none 0 0, .slice none 0 0, .int .i64 0, .int .i64 0, .int .i64 0, .slice none 0 0, .int .i64 0] 43)).setRow W1.heap.size #[.slice pa s.progs.length pc, .slice ra s.rooms.length rc, .int .i64 s.groups, .int .i64 s.locks, .int .i64 s.cells, .slice la l.length lc, .int .i64 (Tr.rnC l : Int)]) := below_setRow ((Below.refl _ _).alloc (Nat.le_refl _) _) (Nat.le_refl _)
  have NS2 := TW.hide (blk_keep NS.out hA_)
  have N2 : Hid (((W1.alloc (.cells #[.slice none 0 0, .slice none 0 0, .int .i64 0, .int .i64 0, .int .i64 0, .slice none 0 0, .int .i64 0] 43)).setRow W1.heap.size #[.slice pa s.progs.length pc, .slice ra s.rooms.length rc, .int .i64 s.groups, .int .i64 s.locks, .int .i64 s.cells, .slice la l.length lc, .int .i64 (Tr.rnC l : Int)]).heap[W1.heap.size]? = some (.cells #[.slice pa s.progs.length pc, .slice ra s.rooms.length rc, .int .i64 s.groups, .int .i64 s.locks, .int .i64 s.cells, .slice la l.length lc, .int .i64 (Tr.rnC l : Int)] 43 (0, 0))) := setRow_heap _ _ _ _ _ _ (heap_alloc_new W1 _)
  clear hA_ NS
  have hL : s.locks = (s.locks.toNat : Int) := by have := ho.l1; omega
  have hL6 : s.locks.toNat ≤ 64 := by have := ho.l1; omega
  have HGu : Hid (∀ W, Below w.heap.size w W → Calls Tryz.prog 11 #[.agg #[.slice pa s.progs.length pc, .slice ra s.rooms.length rc, .int .i64 s.groups, .int .i64 s.locks, .int .i64 s.cells, .slice la l.length lc, .int .i64 (Tr.rnC l : Int)], .int .i64 i] W (GuaQ W s.locks.toNat l i)) := fun W hW => pguards s pa pc ra rc la lc l _ s.locks.toNat i W (HEw.out.below hW) hL hL6 hn
  have HPa' := TW.hide (HPa.out he)
  have HPo' := TW.hide (HPo.out he)
  have HPn' := TW.hide (HPn.out he)
  subst he
  clear h1 h2 ho hn hg hL hL6 HOk HPe HPa HPo HPn HEw
  by_cases hi : 0 ≤ i ∧ i < s.cells
  ·have ki0 : (i < 0) = False := by simp; omega
   have ki1 : (s.cells ≤ i) = False := by simp; omega
   have HPo2 := TW.hide (HPo'.out hi)
   have HPn2 := TW.hide (HPn'.out hi)
   clear hi HPa' HPo' HPn'
   go_wp2_with (first | (refine wpList_store_row (by rfl) 43 _ _ (by rfl) W1.heap.size #[.slice pa s.progs.length pc, .slice ra s.rooms.length rc, .int .i64 s.groups, .int .i64 s.locks, .int .i64 s.cells, .slice la l.length lc, .int .i64 (Tr.rnC l : Int)] (by rfl) (by rfl) 43 _ (heap_alloc_new W1 _) (by kernel_rfl) (by rfl) (by simp [Value.oneCell']) ?_; generalize World.setRow _ _ _ = X2 at *; generalize W1.heap.size = g2 at *; obtain ⟨q0, q1, q2, q3, q4, q5, q6⟩ := cellsY7 N2.out; obtain ⟨r0, r1, r2, r3, r4⟩ := cellsY5 NS2.out) | fail)
   refine (HGu.out X2 NB2.out).mono ?_
   rintro e3 W3 ⟨hb, hc⟩
   have NB3 : Hid (Below w.heap.size w W3) := NB2.out.trans (hb.mono NB2.out.size)
   rcases hc with ⟨ht, b, rfl, hN⟩ | ⟨ht, rfl⟩
   ·have HR := TW.hide (HPo2.out b s.locks.toNat W3 ht (own_base hN NB2.out.size) NB3.out)
    clear ht hN hb HPo2 HPn2
    go_wp2
    first | exact HR.out | exact ⟨rfl, HR.out⟩
   ·have HR := TW.hide (HPn2.out W3 ht NB3.out)
    clear ht hb HPo2 HPn2
    go_wp2
    first | exact HR.out | exact ⟨rfl, HR.out⟩
  ·have HPx := TW.hide (HPa'.out hi)
   by_cases ki0 : i < 0
   ·clear hi HPa' HPo' HPn'
    go_wp2_with (first | (refine wpList_store_row (by rfl) 43 _ _ (by rfl) W1.heap.size #[.slice pa s.progs.length pc, .slice ra s.rooms.length rc, .int .i64 s.groups, .int .i64 s.locks, .int .i64 s.cells, .slice la l.length lc, .int .i64 (Tr.rnC l : Int)] (by rfl) (by rfl) 43 _ (heap_alloc_new W1 _) (by kernel_rfl) (by rfl) (by simp [Value.oneCell']) ?_; generalize World.setRow _ _ _ = X2 at *; generalize W1.heap.size = g2 at *; obtain ⟨q0, q1, q2, q3, q4, q5, q6⟩ := cellsY7 N2.out; obtain ⟨r0, r1, r2, r3, r4⟩ := cellsY5 NS2.out) | fail)
    have HR := TW.hide (HPx.out X2 NB2.out)
    first | exact HR.out | exact ⟨rfl, HR.out⟩
   ·have ki1 : s.cells ≤ i := by omega
    clear hi HPa' HPo' HPn'
    go_wp2_with (first | (refine wpList_store_row (by rfl) 43 _ _ (by rfl) W1.heap.size #[.slice pa s.progs.length pc, .slice ra s.rooms.length rc, .int .i64 s.groups, .int .i64 s.locks, .int .i64 s.cells, .slice la l.length lc, .int .i64 (Tr.rnC l : Int)] (by rfl) (by rfl) 43 _ (heap_alloc_new W1 _) (by kernel_rfl) (by rfl) (by simp [Value.oneCell']) ?_; generalize World.setRow _ _ _ = X2 at *; generalize W1.heap.size = g2 at *; obtain ⟨q0, q1, q2, q3, q4, q5, q6⟩ := cellsY7 N2.out; obtain ⟨r0, r1, r2, r3, r4⟩ := cellsY5 NS2.out) | fail)
    have HR := TW.hide (HPx.out X2 NB2.out)
    first | exact HR.out | exact ⟨rfl, HR.out⟩
 ·obtain rfl := h2 he
  have NB2 : Hid (Below w.heap.size w ((W1.alloc (.cells #[.slice none 0 0, .slice none 0 0, .int .i64 0, .int .i64 0, .int .i64 0, .slice none 0 0, .int .i64 0] 43)).setRow W1.heap.size #[.slice none 0 0, .slice none 0 0, .int .i64 0, .int .i64 0, .int .i64 0, .slice none 0 0, .int .i64 0])) := below_setRow (NB1.out.alloc NB1.out.size _) NB1.out.size
  have hA_ : Below W1.heap.size W1 ((W1.alloc (.cells #[.slice none 0 0, .slice none 0 0, .int .i64 0, .int .i64 0, .int .i64 0, .slice none 0 0, .int .i64 0] 43)).setRow W1.heap.size #[.slice none 0 0, .slice none 0 0, .int .i64 0, .int .i64 0, .int .i64 0, .slice none 0 0, .int .i64 0]) := below_setRow ((Below.refl _ _).alloc (Nat.le_refl _) _) (Nat.le_refl _)
  have NS2 := TW.hide (blk_keep NS.out hA_)
  have N2 : Hid (((W1.alloc (.cells #[.slice none 0 0, .slice none 0 0, .int .i64 0, .int .i64 0, .int .i64 0, .slice none 0 0, .int .i64 0] 43)).setRow W1.heap.size #[.slice none 0 0, .slice none 0 0, .int .i64 0, .int .i64 0, .int .i64 0, .slice none 0 0, .int .i64 0]).heap[W1.heap.size]? = some (.cells #[.slice none 0 0, .slice none 0 0, .int .i64 0, .int .i64 0, .int .i64 0, .slice none 0 0, .int .i64 0] 43 (0, 0))) := setRow_heap _ _ _ _ _ _ (heap_alloc_new W1 _)
  clear hA_ NS
  have HPe' := TW.hide (HPe.out he)
  have kv : (ve != 0) = true := by simp [he]
  clear he h1 h2 HOk HPe HPa HPo HEw
  go_wp2_with (first | (refine wpList_store_row (by rfl) 43 _ _ (by rfl) W1.heap.size #[.slice none 0 0, .slice none 0 0, .int .i64 0, .int .i64 0, .int .i64 0, .slice none 0 0, .int .i64 0] (by rfl) (by rfl) 43 _ (heap_alloc_new W1 _) (by kernel_rfl) (by rfl) (by simp [Value.oneCell']) ?_; generalize World.setRow _ _ _ = X2 at *; generalize W1.heap.size = g2 at *; obtain ⟨q0, q1, q2, q3, q4, q5, q6⟩ := cellsY7 N2.out; obtain ⟨r0, r1, r2, r3, r4⟩ := cellsY5 NS2.out) | fail)
  have HR := TW.hide (HPe'.out X2 NB2.out)
  first | exact HR.out | exact ⟨rfl, HR.out⟩
end LW
end Go.Proofs.YtdjanbojhblijaaGreat
