/-
  The notes of a trace, as they lie in memory; whether an event fits.
-/
import Derived.Test.YtnfimdcpocooiaaTv2
import Derived.Laws.OwnMore
namespace Go.Proofs.Ytnfimdcpocooiaa
open Go.RowKit
set_option linter.unusedVariables false
set_option linter.unusedSimpArgs false
namespace LW
open Mc
/-- A row that is told by its places. -/
def rwI (n : Nat) (f : Nat → Value) : List Value := (List.range n).map f
theorem rwI_len (n : Nat) (f : Nat → Value) : (rwI n f).length = n := by simp [rwI]
theorem rwI_get (n : Nat) (f : Nat → Value) (c : Nat) (h : c < n) : (rwI n f)[c]? = some (f c) := by
  rw [rwI, List.getElem?_map, List.getElem?_range h]
  rfl
theorem rwI_set (n : Nat) (f f' : Nat → Value) (c : Nat) (v : Value) (h1 : f' c = v) (h2 : ∀ j, j ≠ c → f' j = f j) : (rwI n f).set c v = rwI n f' := by
  apply List.ext_getElem?
  intro j
  rw [List.getElem?_set]
  by_cases hj : j < n
  · rw [rwI_get n f' j hj, rwI_len]
    by_cases e : c = j
    · subst e
      rw [if_pos rfl, if_pos hj, h1]
    · rw [if_neg e, rwI_get n f j hj, h2 j (fun h => e h.symm)]
  · rw [List.getElem?_eq_none (by rw [rwI_len]; omega), List.getElem?_eq_none (by rw [rwI_len]; omega)]
    split
    · rw [rwI_len, if_neg (by omega)]
    · rfl
theorem rwI_congr (n : Nat) (f f' : Nat → Value) (h : ∀ j, j < n → f j = f' j) : rwI n f = rwI n f' := by
  unfold rwI
  exact List.map_congr_left fun j hj => h j (List.mem_range.1 hj)
def inV (p : List Ev) (c : Nat) : Value := .int .i64 ((Tr.snC p (c : Int) : Int) - (Tr.tkC p (c : Int) : Int))
def clV (p : List Ev) (c : Nat) : Value := .bool (Tr.clC p (c : Int))
/-- The notes in memory. -/
structure NtM (B : Nat) (W : World) (g bm : Nat) (v1 v2 : Value) (s : Syst) (pa : Option Addr) (pc : Nat) (ra : Option Addr) (rc : Nat) (p q : List Ev) : Prop where
  blk : W.heap[g]? = some (.cells #[.slice pa s.progs.length pc, .slice ra s.rooms.length rc, .int .i64 s.groups, .int .i64 s.locks, .int .i64 s.cells, .int .i64 (Tr.rnC p : Int), v1, v2, .map (some bm)] 80 (0, 0))
  hg : B ≤ g
  ins : W.ownsRow B 3 1 v1 s.rooms.length (rwI s.rooms.length (inV p))
  cls : W.ownsRow B 4 1 v2 s.rooms.length (rwI s.rooms.length (clV p))
  mp : MpI W bm q
  hm : B ≤ bm
theorem NtM.below {B g bm : Nat} {v1 v2 : Value} {s : Syst} {pa : Option Addr} {pc : Nat} {ra : Option Addr} {rc : Nat} {p : List Ev} {q : List Ev} {w w' : World} (h : NtM B w g bm v1 v2 s pa pc ra rc p q) (hb : Below w.heap.size w w') : NtM B w' g bm v1 v2 s pa pc ra rc p q := ⟨blk_keep h.blk hb, h.hg, own_belowI h.ins hb, own_belowI h.cls hb, h.mp.below hb, h.hm⟩
theorem own_rw {w : World} {B n : Nat} {t : TypeId} {v : Value} {f : Nat → Value} (h : w.ownsRow B t 1 v n (rwI n f)) (c : Nat) (hc : c < n) : ∃ b cap, v = .slice (some ⟨b, 0, none⟩) n cap ∧ B ≤ b ∧ (∃ cur, w.heap[b]? = some (.cells cur t (0, 0))) ∧ n ≤ cap ∧ w.cell? ⟨b, c, none⟩ = some (f c) := by
  obtain ⟨b, cap, cur, e, hB, hh⟩ := own_at h (by omega)
  refine ⟨b, cap, e, hB, ⟨cur, hh⟩, ?_, own_rdA h e (by omega) c _ (rwI_get n f c hc)⟩
  rcases h.2 with ⟨e2, h0⟩ | ⟨g, cap', cur', e2, _, _, hn, _⟩
  · omega
  · rw [e] at e2
    injection e2 with _ _ e3
    omega
theorem cellsY9 {w : World} {b : Nat} {t : TypeId} {x0 x1 x2 x3 x4 x5 x6 x7 x8 : Value} (h : w.heap[b]? = some (.cells #[x0, x1, x2, x3, x4, x5, x6, x7, x8] t (0, 0))) : w.cell? ⟨b, 0, none⟩ = some x0 ∧ w.cell? ⟨b, 1, none⟩ = some x1 ∧ w.cell? ⟨b, 2, none⟩ = some x2 ∧ w.cell? ⟨b, 3, none⟩ = some x3 ∧ w.cell? ⟨b, 4, none⟩ = some x4 ∧ w.cell? ⟨b, 5, none⟩ = some x5 ∧ w.cell? ⟨b, 6, none⟩ = some x6 ∧ w.cell? ⟨b, 7, none⟩ = some x7 ∧ w.cell? ⟨b, 8, none⟩ = some x8 := by
  simp [World.cell?, h]
theorem sub_gt (a b : Nat) : (0 : Int) < (a : Int) - (b : Int) ↔ b < a := by omega
set_option maxRecDepth 100000 in
set_option maxHeartbeats 4000000 in
theorem pfits {B g bm : Nat} {v1 v2 : Value} {s : Syst} {pa : Option Addr} {pc : Nat} {ra : Option Addr} {rc : Nat} {p : List Ev} (who op a va : Int) (sh : Bool) (w : World) (h : NtM B w g bm v1 v2 s pa pc ra rc p p) (ha : i64 a) :
    Calls Try.prog 35 #[.pointer (some ⟨g, 0, none⟩), .agg #[.int .i64 who, .int .i64 op, .int .i64 a, .int .i64 va, .bool sh]] w (RiP (Tr.FitE s p ⟨who, op, a, va, sh⟩) w) := by
  have HM := TW.hide (h.below ((Below.refl w.heap.size w).alloc (Nat.le_refl _) (.cells #[.int .i64 who, .int .i64 op, .int .i64 a, .int .i64 va, .bool sh] 57)))
  clear h
  obtain ⟨Z, hZ⟩ : ∃ Z, Z = Tr.FitE s p ⟨who, op, a, va, sh⟩ := ⟨_, rfl⟩
  have HZ : Hid (Z ↔ (0 ≤ who ∧ who < (Tr.rnC p : Int) ∧ 1 ≤ op ∧ op ≤ 16 ∧ (∀ m, Tr.mnC s op = some m → 0 ≤ a ∧ a < m) ∧ (op = 14 → va = 0 ∨ (va = Tr.rnC p ∧ Tr.rnC p < 512)) ∧ (op = 6 → sh = false → Tr.tkC p a < Tr.snC p a) ∧ (op = 6 → sh = true → Tr.clC p a = true) ∧ (op = 8 → Tr.hdC p a = none))) := by
    show _ ↔ _
    rw [hZ]
    exact ⟨fun h => ⟨h.w0, h.w1, h.o0, h.o1, h.a, h.st, h.tk, h.ts, h.lk⟩, fun h => ⟨⟨h.1, h.2.1, h.2.2.1, h.2.2.2.1, h.2.2.2.2.1⟩, h.2.2.2.2.2.1, h.2.2.2.2.2.2.1, h.2.2.2.2.2.2.2.1, h.2.2.2.2.2.2.2.2⟩⟩
  rw [← hZ]
  clear hZ
  have HTh : Hid (∀ W, Calls Try.prog 54 #[.agg #[.slice pa s.progs.length pc, .slice ra s.rooms.length rc, .int .i64 s.groups, .int .i64 s.locks, .int .i64 s.cells], .int .i64 op] W fun e w' => e = .returned (.tuple #[.int .i64 (thM s.rooms.length s.progs.length s.groups s.locks s.cells op).1, .bool (thM s.rooms.length s.progs.length s.groups s.locks s.cells op).2]) ∧ Below W.heap.size W w') := fun W => pthings pa _ pc ra _ rc _ _ _ op W
  have HMn := TW.hide (thM_mn s op)
  generalize (thM s.rooms.length s.progs.length s.groups s.locks s.cells op).1 = tm at *
  generalize (thM s.rooms.length s.progs.length s.groups s.locks s.cells op).2 = tb at *
  have hA : Below w.heap.size w (w.alloc (.cells #[.int .i64 who, .int .i64 op, .int .i64 a, .int .i64 va, .bool sh] 57)) := (Below.refl _ _).alloc (Nat.le_refl _) _
  have N1 : Hid ((w.alloc (.cells #[.int .i64 who, .int .i64 op, .int .i64 a, .int .i64 va, .bool sh] 57)).heap[w.heap.size]? = some (.cells #[.int .i64 who, .int .i64 op, .int .i64 a, .int .i64 va, .bool sh] 57 (0, 0))) := heap_alloc_new w _
  have NB := TW.hide hA
  clear hA
  go_enter Try.func35, Try.ntmps35
  refine wp_seq_k fun K hK => ?_
  have HK := TW.hide hK
  clear hK
  go_wp2
  refine HK.out _ _ ?_
  clear HK K
  generalize w.alloc _ = X at *
  obtain ⟨z0, z1, z2, z3, z4⟩ := cellsY5 N1.out
  obtain ⟨x0, x1, x2, x3, x4, x5, x6, x7, x8⟩ := cellsY9 HM.out.blk
  have NBx := NB
  clear NB
  by_cases q1 : who < 0
  · have HNo : Hid (¬ Z) := fun hz => by have := HZ.out.1 hz; omega
    have k1 : ¬ (0 : Int) ≤ who := by omega
    clear HZ HMn
    go_wp2
    go_quiet (fail)
    go_wp2
    go_ret
    exact ⟨false, rfl, ⟨fun h => (by cases h), fun h => absurd h HNo.out⟩, below_drewN NBx.out _⟩
  by_cases q2 : (Tr.rnC p : Int) ≤ who
  · have HNo : Hid (¬ Z) := fun hz => by have := HZ.out.1 hz; omega
    clear HZ HMn
    go_wp2
    go_quiet (fail)
    go_wp2
    go_ret
    exact ⟨false, rfl, ⟨fun h => (by cases h), fun h => absurd h HNo.out⟩, below_drewN NBx.out _⟩
  by_cases q3 : op < 1
  · have HNo : Hid (¬ Z) := fun hz => by have := HZ.out.1 hz; omega
    clear HZ HMn
    go_wp2
    go_quiet (fail)
    go_wp2
    go_ret
    exact ⟨false, rfl, ⟨fun h => (by cases h), fun h => absurd h HNo.out⟩, below_drewN NBx.out _⟩
  by_cases q4 : 16 < op
  · have HNo : Hid (¬ Z) := fun hz => by have := HZ.out.1 hz; omega
    clear HZ HMn
    go_wp2
    go_quiet (fail)
    go_wp2
    go_ret
    exact ⟨false, rfl, ⟨fun h => (by cases h), fun h => absurd h HNo.out⟩, below_drewN NBx.out _⟩
  refine wp_seq_k fun K hK => ?_
  have HK := TW.hide hK
  clear hK
  go_wp2
  go_quiet (fail)
  go_wp2
  refine HK.out _ _ ?_
  clear HK K
  have HX1 : Hid (Below X.heap.size X (X.drewN nq)) := below_drewN (Below.refl _ _) _
  generalize X.drewN nq = X1 at *
  have HM1 := TW.hide (HM.out.below HX1.out)
  have N2 := TW.hide (blk_keep N1.out HX1.out)
  have NB1 : Hid (Below w.heap.size w X1) := NBx.out.trans (HX1.out.mono NBx.out.size)
  clear HX1 NBx N1 HM z0 z1 z2 z3 z4 x0 x1 x2 x3 x4 x5 x6 x7 x8
  have HQ : Hid (0 ≤ who ∧ who < (Tr.rnC p : Int) ∧ 1 ≤ op ∧ op ≤ 16) := ⟨by omega, by omega, by omega, by omega⟩
  clear q1 q2 q3 q4
  have HX : Hid (Below X1.heap.size X1 X1) := Below.refl _ _
  refine wp_seq_k fun K hK => ?_
  have HK := TW.hide hK
  clear hK
  refine wp_seq ?_
  refine wp_region_noPanic ?_
  refine RG.wp_region_L (fun Z => True) (fun Z => Below X1.heap.size X1 Z) [] (by kernel_rfl) ?_
  refine RG.wpL_any fun Ya hY => ?_
  have HTa : Hid (Below X1.heap.size X1 Ya) := by rw [hY]; exact below_drewN HX.out 1
  clear hY
  refine RG.wpL_take (fuel := 6) (a' := ?Aa) [0, 1, 2, 3, 4, 5] (by kernel_rfl) (by kernel_rfl) (fun _ _ _ _ _ h => h) HTa.out (fun _ => trivial) ?ra ?_
  case ra =>
    refine RG.RunsIf.weak (v := ?_) (by rfl) (by rfl) (fun Z hT => ?_) ?_
    rotate_left
    · go_simp
      rfl
    simp only [Act.put, List.setIfInBounds_toArray, List.set_cons_zero, List.set_cons_succ, List.getElem_toArray, List.getElem_cons_zero, List.getElem_cons_succ]
    refine RG.RunsIf.weak (v := ?_) (by rfl) (by rfl) (fun Z hT => ?_) ?_
    rotate_left
    · go_simp
      rfl
    simp only [Act.put, List.setIfInBounds_toArray, List.set_cons_zero, List.set_cons_succ, List.getElem_toArray, List.getElem_cons_zero, List.getElem_cons_succ]
    refine RG.RunsIf.weak (v := ?_) (by rfl) (by rfl) (fun Z hT => ?_) ?_
    rotate_left
    · go_simp
      rfl
    simp only [Act.put, List.setIfInBounds_toArray, List.set_cons_zero, List.set_cons_succ, List.getElem_toArray, List.getElem_cons_zero, List.getElem_cons_succ]
    refine RG.RunsIf.weak (v := .agg #[.slice pa s.progs.length pc, .slice ra s.rooms.length rc, .int .i64 s.groups, .int .i64 s.locks, .int .i64 s.cells]) (by rfl) (by rfl) (fun Z hT => ?_) ?_
    · obtain ⟨x0, x1, x2, x3, x4, x5, x6, x7, x8⟩ := cellsY9 (HM1.out.below hT).blk; obtain ⟨z0, z1, z2, z3, z4⟩ := cellsY5 (blk_keep N2.out hT)
      go_simp
    simp only [Act.put, List.setIfInBounds_toArray, List.set_cons_zero, List.set_cons_succ, List.getElem_toArray, List.getElem_cons_zero, List.getElem_cons_succ]
    refine RG.RunsIf.weak (v := ?_) (by rfl) (by rfl) (fun Z hT => ?_) ?_
    rotate_left
    · go_simp
      rfl
    simp only [Act.put, List.setIfInBounds_toArray, List.set_cons_zero, List.set_cons_succ, List.getElem_toArray, List.getElem_cons_zero, List.getElem_cons_succ]
    refine RG.RunsIf.weak (v := .int .i64 op) (by rfl) (by rfl) (fun Z hT => ?_) ?_
    · obtain ⟨x0, x1, x2, x3, x4, x5, x6, x7, x8⟩ := cellsY9 (HM1.out.below hT).blk; obtain ⟨z0, z1, z2, z3, z4⟩ := cellsY5 (blk_keep N2.out hT)
      go_simp
    simp only [Act.put, List.setIfInBounds_toArray, List.set_cons_zero, List.set_cons_succ, List.getElem_toArray, List.getElem_cons_zero, List.getElem_cons_succ]
    exact RG.RunsIf.nil
  refine RG.wpL_step (i := 6) (by kernel_rfl) (by rfl) (by rfl) (fun KX hK => ?_)
  have HK := TW.hide hK
  clear hK
  go_simp
  refine (HTh.out Ya).mono ?_
  rintro e_W1 W1 ⟨rfl, hb⟩
  have HT1 : Hid (Below X1.heap.size X1 W1) := HTa.out.trans (hb.mono HTa.out.size)
  refine HK.out _ _ HT1.out (fun _ => trivial) ?_
  clear HK KX hb
  try simp only [Act.put, List.setIfInBounds_toArray, List.set_cons_zero, List.set_cons_succ, List.getElem_toArray, List.getElem_cons_zero, List.getElem_cons_succ]
  refine RG.wpL_take (fuel := 0) (a' := ?Aax) [7, 8, 9, 10, 11] (by kernel_rfl) (by kernel_rfl) (fun _ _ _ _ _ h => h) HT1.out (fun _ => trivial) ?rax ?_
  case rax =>
    refine RG.RunsIf.weak (v := ?_) (by rfl) (by rfl) (fun Z hT => ?_) ?_
    rotate_left
    · go_simp
      rfl
    simp only [Act.put, List.setIfInBounds_toArray, List.set_cons_zero, List.set_cons_succ, List.getElem_toArray, List.getElem_cons_zero, List.getElem_cons_succ]
    refine RG.RunsIf.weak (v := ?_) (by rfl) (by rfl) (fun Z hT => ?_) ?_
    rotate_left
    · go_simp
      rfl
    simp only [Act.put, List.setIfInBounds_toArray, List.set_cons_zero, List.set_cons_succ, List.getElem_toArray, List.getElem_cons_zero, List.getElem_cons_succ]
    refine RG.RunsIf.weak (v := ?_) (by rfl) (by rfl) (fun Z hT => ?_) ?_
    rotate_left
    · go_simp
      rfl
    simp only [Act.put, List.setIfInBounds_toArray, List.set_cons_zero, List.set_cons_succ, List.getElem_toArray, List.getElem_cons_zero, List.getElem_cons_succ]
    refine RG.RunsIf.weak (v := ?_) (by rfl) (by rfl) (fun Z hT => ?_) ?_
    rotate_left
    · go_simp
      rfl
    simp only [Act.put, List.setIfInBounds_toArray, List.set_cons_zero, List.set_cons_succ, List.getElem_toArray, List.getElem_cons_zero, List.getElem_cons_succ]
    refine RG.RunsIf.weak (v := ?_) (by rfl) (by rfl) (fun Z hT => ?_) ?_
    rotate_left
    · go_simp
      rfl
    simp only [Act.put, List.setIfInBounds_toArray, List.set_cons_zero, List.set_cons_succ, List.getElem_toArray, List.getElem_cons_zero, List.getElem_cons_succ]
    exact RG.RunsIf.nil
  refine RG.wpL_done (by kernel_rfl) ?_ _
  refine NoPanic.normal ?_
  have HM2 := TW.hide (HM1.out.below HT1.out)
  have N3 := TW.hide (blk_keep N2.out HT1.out)
  have NBx : Hid (Below w.heap.size w W1) := NB1.out.trans (HT1.out.mono NB1.out.size)
  clear HTa HT1 HX NB1 HM1 N2 HTh Ya
  obtain ⟨z0, z1, z2, z3, z4⟩ := cellsY5 N3.out
  obtain ⟨x0, x1, x2, x3, x4, x5, x6, x7, x8⟩ := cellsY9 HM2.out.blk
  by_cases h14 : op = 14
  · obtain ⟨rfl, rfl⟩ : tb = true ∧ tm = (s.progs.length : Int) := by
      have e := HMn.out
      rw [h14] at e
      cases tb with
      | false => cases e
      | true => injection e with e; exact ⟨rfl, e.symm⟩
    have HMm : Hid (Tr.mnC s op = some ((s.progs.length : Int))) := HMn.out
    clear HMn
    have k14 : (op == 14) = true := by simp [h14]
    by_cases a1 : a < 0
    · have HNo : Hid (¬ Z) := fun hz => by have := (HZ.out.1 hz).2.2.2.2.1 _ HMm.out; omega
      clear HZ HMm
      go_wp2
      go_ret
      exact ⟨false, rfl, ⟨fun h => (by cases h), fun h => absurd h HNo.out⟩, NBx.out⟩
    by_cases a2 : (s.progs.length : Int) ≤ a
    · have HNo : Hid (¬ Z) := fun hz => by have := (HZ.out.1 hz).2.2.2.2.1 _ HMm.out; omega
      clear HZ HMm
      go_wp2
      go_ret
      exact ⟨false, rfl, ⟨fun h => (by cases h), fun h => absurd h HNo.out⟩, NBx.out⟩
    have HAm : Hid (∀ m, Tr.mnC s op = some m → 0 ≤ a ∧ a < m) := fun m hm => by
      rw [HMm.out] at hm
      injection hm with hm
      omega
    clear HMm
    have H14 := TW.hide h14
    clear h14
    by_cases b1 : va = 0
    · have HYes : Hid Z := HZ.out.2 ⟨HQ.out.1, HQ.out.2.1, HQ.out.2.2.1, HQ.out.2.2.2, HAm.out, fun _ => .inl b1, fun h => by have := H14.out; omega, fun h => by have := H14.out; omega, fun h => by have := H14.out; omega⟩
      have kb : (va == 0) = true := by simp [b1]
      clear b1 HZ HAm HQ H14
      go_wp2
      refine HK.out _ _ ?_
      clear HK K
      go_wp2
      go_quiet (fail)
      go_wp2
      go_ret
      exact ⟨true, rfl, ⟨fun _ => HYes.out, fun _ => rfl⟩, below_drewN NBx.out _⟩
    have kb : (va == 0) = false := by simp [b1]
    by_cases b2 : va = (Tr.rnC p : Int)
    · have kb2 : (va == (Tr.rnC p : Int)) = true := by simp [b2]
      by_cases b3 : Tr.rnC p < 512
      · have HYes : Hid Z := HZ.out.2 ⟨HQ.out.1, HQ.out.2.1, HQ.out.2.2.1, HQ.out.2.2.2, HAm.out, fun _ => .inr ⟨b2, b3⟩, fun h => by have := H14.out; omega, fun h => by have := H14.out; omega, fun h => by have := H14.out; omega⟩
        have kb3 : (Tr.rnC p : Int) < 512 := by omega
        clear b1 b2 b3 HZ HAm HQ H14
        generalize (Tr.rnC p : Int) = rn at *
        go_wp2
        refine HK.out _ _ ?_
        clear HK K
        go_wp2
        go_quiet (fail)
        go_wp2
        go_ret
        exact ⟨true, rfl, ⟨fun _ => HYes.out, fun _ => rfl⟩, below_drewN NBx.out _⟩
      · have HNo : Hid (¬ Z) := fun hz => by
          rcases (HZ.out.1 hz).2.2.2.2.2.1 H14.out with h | h
          · exact b1 h
          · exact b3 h.2
        have kb3 : ((Tr.rnC p : Int) < 512) = False := by simp; omega
        clear b1 b2 b3 HZ HAm HQ H14
        generalize (Tr.rnC p : Int) = rn at *
        go_wp2
        refine HK.out _ _ ?_
        clear HK K
        go_wp2
        go_quiet (fail)
        go_wp2
        go_ret
        exact ⟨false, rfl, ⟨fun h => (by cases h), fun h => absurd h HNo.out⟩, below_drewN NBx.out _⟩
    have HNo : Hid (¬ Z) := fun hz => by
      rcases (HZ.out.1 hz).2.2.2.2.2.1 H14.out with h | h
      · exact b1 h
      · exact b2 h.1
    have kb2 : (va == (Tr.rnC p : Int)) = false := by simp [b2]
    clear b1 b2 HZ HAm HQ H14
    generalize (Tr.rnC p : Int) = rn at *
    go_wp2
    refine HK.out _ _ ?_
    clear HK K
    go_wp2
    go_quiet (fail)
    go_wp2
    go_ret
    exact ⟨false, rfl, ⟨fun h => (by cases h), fun h => absurd h HNo.out⟩, below_drewN NBx.out _⟩
  have k14 : (op == 14) = false := by simp [h14]
  by_cases h6 : op = 6
  · obtain ⟨rfl, rfl⟩ : tb = true ∧ tm = (s.rooms.length : Int) := by
      have e := HMn.out
      rw [h6] at e
      cases tb with
      | false => cases e
      | true => injection e with e; exact ⟨rfl, e.symm⟩
    have HMm : Hid (Tr.mnC s op = some ((s.rooms.length : Int))) := HMn.out
    clear HMn
    have k6 : (op == 6) = true := by simp [h6]
    by_cases a1 : a < 0
    · have HNo : Hid (¬ Z) := fun hz => by have := (HZ.out.1 hz).2.2.2.2.1 _ HMm.out; omega
      clear HZ HMm
      go_wp2
      go_ret
      exact ⟨false, rfl, ⟨fun h => (by cases h), fun h => absurd h HNo.out⟩, NBx.out⟩
    by_cases a2 : (s.rooms.length : Int) ≤ a
    · have HNo : Hid (¬ Z) := fun hz => by have := (HZ.out.1 hz).2.2.2.2.1 _ HMm.out; omega
      clear HZ HMm
      go_wp2
      go_ret
      exact ⟨false, rfl, ⟨fun h => (by cases h), fun h => absurd h HNo.out⟩, NBx.out⟩
    have HAm : Hid (∀ m, Tr.mnC s op = some m → 0 ≤ a ∧ a < m) := fun m hm => by
      rw [HMm.out] at hm
      injection hm with hm
      omega
    clear HMm
    have H6 := TW.hide h6
    clear h6 h14
    obtain ⟨c, rfl⟩ : ∃ c : Nat, a = (c : Int) := ⟨a.toNat, by omega⟩
    have hcl : c < s.rooms.length := by omega
    have c0 : (0 : Int) ≤ (c : Int) := by omega
    have c1 : (c : Int) < (s.rooms.length : Int) := by omega
    cases sh with
    | true =>
      obtain ⟨b, cap, rfl, _, _, _, y⟩ := own_rw HM2.out.cls c hcl
      unfold clV at y
      have HCl : Hid (Z ↔ Tr.clC p (c : Int) = true) := ⟨fun hz => (HZ.out.1 hz).2.2.2.2.2.2.2.1 H6.out rfl, fun hc => HZ.out.2 ⟨HQ.out.1, HQ.out.2.1, HQ.out.2.2.1, HQ.out.2.2.2, HAm.out, fun h => by have := H6.out; omega, fun _ h => (by cases h), fun _ _ => hc, fun h => by have := H6.out; omega⟩⟩
      clear HZ HAm HQ H6 HM2 a1 a2
      generalize Tr.clC p (c : Int) = cl at *
      generalize s.rooms.length = r at *
      go_wp2
      refine HK.out _ _ ?_
      clear HK K
      go_wp2
      go_quiet (fail)
      go_wp2
      go_ret
      exact ⟨cl, rfl, HCl.out.symm, below_drewN NBx.out _⟩
    | false =>
      obtain ⟨b, cap, rfl, _, _, _, y⟩ := own_rw HM2.out.ins c hcl
      unfold inV at y
      have HCl : Hid (Z ↔ (0 : Int) < (Tr.snC p (c : Int) : Int) - (Tr.tkC p (c : Int) : Int)) := by
        show _ ↔ _
        rw [sub_gt]
        exact ⟨fun hz => (HZ.out.1 hz).2.2.2.2.2.2.1 H6.out rfl, fun hc => HZ.out.2 ⟨HQ.out.1, HQ.out.2.1, HQ.out.2.2.1, HQ.out.2.2.2, HAm.out, fun h => by have := H6.out; omega, fun _ _ => hc, fun _ h => (by cases h), fun h => by have := H6.out; omega⟩⟩
      clear HZ HAm HQ H6 HM2 a1 a2
      generalize (Tr.snC p (c : Int) : Int) - (Tr.tkC p (c : Int) : Int) = d at *
      generalize s.rooms.length = r at *
      by_cases hd : 0 < d
      · have HYes : Hid Z := HCl.out.2 hd
        go_wp2
        refine HK.out _ _ ?_
        clear HK K
        go_wp2
        go_quiet (fail)
        go_wp2
        go_ret
        exact ⟨true, rfl, ⟨fun _ => HYes.out, fun _ => rfl⟩, below_drewN NBx.out _⟩
      · have HNo : Hid (¬ Z) := fun hz => hd (HCl.out.1 hz)
        have hdF : (0 < d) = False := eq_false hd
        clear hd
        go_wp2
        refine HK.out _ _ ?_
        clear HK K
        go_wp2
        go_quiet (fail)
        go_wp2
        go_ret
        exact ⟨false, rfl, ⟨fun h => (by cases h), fun h => absurd h HNo.out⟩, below_drewN NBx.out _⟩
  have k6 : (op == 6) = false := by simp [h6]
  by_cases h8 : op = 8
  · obtain ⟨rfl, rfl⟩ : tb = true ∧ tm = s.locks := by
      have e := HMn.out
      rw [h8] at e
      cases tb with
      | false => cases e
      | true => injection e with e; exact ⟨rfl, e.symm⟩
    have HMm : Hid (Tr.mnC s op = some (s.locks)) := HMn.out
    clear HMn
    have k8 : (op == 8) = true := by simp [h8]
    by_cases a1 : a < 0
    · have HNo : Hid (¬ Z) := fun hz => by have := (HZ.out.1 hz).2.2.2.2.1 _ HMm.out; omega
      clear HZ HMm
      go_wp2
      go_ret
      exact ⟨false, rfl, ⟨fun h => (by cases h), fun h => absurd h HNo.out⟩, NBx.out⟩
    by_cases a2 : s.locks ≤ a
    · have HNo : Hid (¬ Z) := fun hz => by have := (HZ.out.1 hz).2.2.2.2.1 _ HMm.out; omega
      clear HZ HMm
      go_wp2
      go_ret
      exact ⟨false, rfl, ⟨fun h => (by cases h), fun h => absurd h HNo.out⟩, NBx.out⟩
    have HAm : Hid (∀ m, Tr.mnC s op = some m → 0 ≤ a ∧ a < m) := fun m hm => by
      rw [HMm.out] at hm
      injection hm with hm
      omega
    clear HMm
    have H8 := TW.hide h8
    clear h8 h6 h14
    have HCl : Hid (Z ↔ (Tr.hdC p a).isSome = false) := by
      show _ ↔ _
      rw [Option.isSome_eq_false_iff, Option.isNone_iff_eq_none]
      exact ⟨fun hz => (HZ.out.1 hz).2.2.2.2.2.2.2.2 H8.out, fun hc => HZ.out.2 ⟨HQ.out.1, HQ.out.2.1, HQ.out.2.2.1, HQ.out.2.2.2, HAm.out, fun h => by have := H8.out; omega, fun h => by have := H8.out; omega, fun h => by have := H8.out; omega, fun _ => hc⟩⟩
    have HAn : Hid (∀ W, MpI W bm p → Calls Try.prog 55 #[.map (some bm), .int .i64 a] W fun e w' => e = .returned (.bool (Tr.hdC p a).isSome) ∧ Below W.heap.size W w') := fun W hW => pany bm p a W hW ha
    clear HZ HAm HQ H8
    generalize (Tr.hdC p a).isSome = hd at *
    have HX : Hid (Below W1.heap.size W1 W1) := Below.refl _ _
    go_wp2
    refine HK.out _ _ ?_
    clear HK K
    go_wp2
    refine wp_region_noPanic ?_
    refine RG.wp_region_L (fun Z => True) (fun Z => Below W1.heap.size W1 Z) [] (by kernel_rfl) ?_
    refine RG.wpL_any fun Yb hY => ?_
    have HTb : Hid (Below W1.heap.size W1 Yb) := by rw [hY]; exact below_drewN HX.out 1
    clear hY
    refine RG.wpL_take (fuel := 3) (a' := ?Ab) [0, 1, 2, 3, 4, 5] (by kernel_rfl) (by kernel_rfl) (fun _ _ _ _ _ h => h) HTb.out (fun _ => trivial) ?rb ?_
    case rb =>
      refine RG.RunsIf.weak (v := ?_) (by rfl) (by rfl) (fun Z hT => ?_) ?_
      rotate_left
      · go_simp
        rfl
      simp only [Act.put, List.setIfInBounds_toArray, List.set_cons_zero, List.set_cons_succ, List.getElem_toArray, List.getElem_cons_zero, List.getElem_cons_succ]
      refine RG.RunsIf.weak (v := ?_) (by rfl) (by rfl) (fun Z hT => ?_) ?_
      rotate_left
      · go_simp
        rfl
      simp only [Act.put, List.setIfInBounds_toArray, List.set_cons_zero, List.set_cons_succ, List.getElem_toArray, List.getElem_cons_zero, List.getElem_cons_succ]
      refine RG.RunsIf.weak (v := ?_) (by rfl) (by rfl) (fun Z hT => ?_) ?_
      rotate_left
      · go_simp
        rfl
      simp only [Act.put, List.setIfInBounds_toArray, List.set_cons_zero, List.set_cons_succ, List.getElem_toArray, List.getElem_cons_zero, List.getElem_cons_succ]
      refine RG.RunsIf.weak (v := .map (some bm)) (by rfl) (by rfl) (fun Z hT => ?_) ?_
      · obtain ⟨x0, x1, x2, x3, x4, x5, x6, x7, x8⟩ := cellsY9 (HM2.out.below hT).blk; obtain ⟨z0, z1, z2, z3, z4⟩ := cellsY5 (blk_keep N3.out hT)
        go_simp
      simp only [Act.put, List.setIfInBounds_toArray, List.set_cons_zero, List.set_cons_succ, List.getElem_toArray, List.getElem_cons_zero, List.getElem_cons_succ]
      refine RG.RunsIf.weak (v := ?_) (by rfl) (by rfl) (fun Z hT => ?_) ?_
      rotate_left
      · go_simp
        rfl
      simp only [Act.put, List.setIfInBounds_toArray, List.set_cons_zero, List.set_cons_succ, List.getElem_toArray, List.getElem_cons_zero, List.getElem_cons_succ]
      refine RG.RunsIf.weak (v := .int .i64 a) (by rfl) (by rfl) (fun Z hT => ?_) ?_
      · obtain ⟨x0, x1, x2, x3, x4, x5, x6, x7, x8⟩ := cellsY9 (HM2.out.below hT).blk; obtain ⟨z0, z1, z2, z3, z4⟩ := cellsY5 (blk_keep N3.out hT)
        go_simp
      simp only [Act.put, List.setIfInBounds_toArray, List.set_cons_zero, List.set_cons_succ, List.getElem_toArray, List.getElem_cons_zero, List.getElem_cons_succ]
      exact RG.RunsIf.nil
    refine RG.wpL_step (i := 6) (by kernel_rfl) (by rfl) (by rfl) (fun KX hK => ?_)
    have HK := TW.hide hK
    clear hK
    go_simp
    refine (HAn.out Yb (HM2.out.mp.below HTb.out)).mono ?_
    rintro e_W2 W2 ⟨rfl, hb⟩
    have HT2 : Hid (Below W1.heap.size W1 W2) := HTb.out.trans (hb.mono HTb.out.size)
    refine HK.out _ _ HT2.out (fun _ => trivial) ?_
    clear HK KX hb
    try simp only [Act.put, List.setIfInBounds_toArray, List.set_cons_zero, List.set_cons_succ, List.getElem_toArray, List.getElem_cons_zero, List.getElem_cons_succ]
    refine RG.wpL_take (fuel := 0) (a' := ?Abx) [7, 8] (by kernel_rfl) (by kernel_rfl) (fun _ _ _ _ _ h => h) HT2.out (fun _ => trivial) ?rbx ?_
    case rbx =>
      refine RG.RunsIf.weak (v := ?_) (by rfl) (by rfl) (fun Z hT => ?_) ?_
      rotate_left
      · go_simp
        rfl
      simp only [Act.put, List.setIfInBounds_toArray, List.set_cons_zero, List.set_cons_succ, List.getElem_toArray, List.getElem_cons_zero, List.getElem_cons_succ]
      refine RG.RunsIf.weak (v := ?_) (by rfl) (by rfl) (fun Z hT => ?_) ?_
      rotate_left
      · go_simp
        rfl
      simp only [Act.put, List.setIfInBounds_toArray, List.set_cons_zero, List.set_cons_succ, List.getElem_toArray, List.getElem_cons_zero, List.getElem_cons_succ]
      exact RG.RunsIf.nil
    refine RG.wpL_done (by kernel_rfl) ?_ _
    refine NoPanic.normal ?_
    go_wp2
    go_ret
    exact ⟨!hd, rfl, (by rw [HCl.out]; cases hd <;> simp), NBx.out.trans (HT2.out.mono NBx.out.size)⟩
  have k8 : (op == 8) = false := by simp [h8]
  have HYs : Hid ((∀ m, Tr.mnC s op = some m → 0 ≤ a ∧ a < m) → Z) := fun hm => HZ.out.2 ⟨HQ.out.1, HQ.out.2.1, HQ.out.2.2.1, HQ.out.2.2.2, hm, fun h => absurd h h14, fun h => absurd h h6, fun h => absurd h h6, fun h => absurd h h8⟩
  clear h14 h6 h8 HQ
  cases tb with
  | false =>
    have HYes : Hid Z := HYs.out (fun m hm => by rw [HMn.out] at hm; cases hm)
    clear HYs HMn HZ
    go_wp2
    refine HK.out _ _ ?_
    clear HK K
    go_wp2
    go_ret
    exact ⟨true, rfl, ⟨fun _ => HYes.out, fun _ => rfl⟩, NBx.out⟩
  | true =>
    have HMm : Hid (Tr.mnC s op = some tm) := HMn.out
    clear HMn
    by_cases a1 : a < 0
    · have HNo : Hid (¬ Z) := fun hz => by have := (HZ.out.1 hz).2.2.2.2.1 _ HMm.out; omega
      clear HZ HMm
      go_wp2
      go_ret
      exact ⟨false, rfl, ⟨fun h => (by cases h), fun h => absurd h HNo.out⟩, NBx.out⟩
    by_cases a2 : tm ≤ a
    · have HNo : Hid (¬ Z) := fun hz => by have := (HZ.out.1 hz).2.2.2.2.1 _ HMm.out; omega
      clear HZ HMm
      go_wp2
      go_ret
      exact ⟨false, rfl, ⟨fun h => (by cases h), fun h => absurd h HNo.out⟩, NBx.out⟩
    have HAm : Hid (∀ m, Tr.mnC s op = some m → 0 ≤ a ∧ a < m) := fun m hm => by
      rw [HMm.out] at hm
      injection hm with hm
      omega
    have HYes : Hid Z := HYs.out HAm.out
    clear HYs HMm HAm HZ
    go_wp2
    refine HK.out _ _ ?_
    clear HK K
    go_wp2
    go_ret
    exact ⟨true, rfl, ⟨fun _ => HYes.out, fun _ => rfl⟩, NBx.out⟩
end LW
end Go.Proofs.Ytnfimdcpocooiaa
