/-
  What the calls Words (the program, the document) give, for all parameters.
-/
import Derived.Test.YtpcahieaakjaaaaEncU
namespace Go.Proofs.Ytpcahieaakjaaaa
open Go.RowKit
set_option linter.unusedVariables false
set_option linter.unusedSimpArgs false
namespace LW
open Words
attribute [local go_sem ↓] Go.wp_at_zero Go.wp_at_succ
theorem made_us (n : Nat) : (madeCells (Value.int .u64 0).cells (n * 1)).toList = us (List.replicate n 0) := by
  have e : (Value.int .u64 0).cells = #[.int .u64 0] := rfl
  rw [e]
  simp [madeCells, us, Nat.mod_one, List.map_const']
theorem mk53 (w : World) : (Instr.makeSlice 47 (.int .i64 8) (.int .i64 8)).run Try.prog w = .ok (.slice (some ⟨w.heap.size, 0, none⟩) 8 8) (w.alloc (.cells (us (List.replicate 8 0)).toArray 23)) := by
  obtain ⟨i0, hi, hz0, hz1, hz2⟩ := info_parts info28
  have h1 := run_makeSlice (P := Try.prog) w 47 23 i0 (.int .u64 0) Try.underlying47 hi hz0 .i64 .i64 8 8 (by omega) (by omega) (by rw [hz1]; decide) (by rw [hz2]; decide) (by omega)
  rw [hz1] at h1
  have e : madeCells (Value.int .u64 0).cells (8 * 1) = (us (List.replicate 8 0)).toArray := by
    apply Array.ext'
    rw [made_us]
  have h2 : (Instr.makeSlice 47 (.int .i64 8) (.int .i64 8)).run Try.prog w = .ok (.slice (some ⟨w.heap.size, 0, none⟩) 8 8) (w.alloc (.cells (madeCells (Value.int .u64 0).cells (8 * 1)) 23)) := h1
  rw [e] at h2
  exact h2
/-- The first k words, noughts behind them. -/
def upW (l : List Int) (k : Nat) : List Int := l.take k ++ List.replicate (8 - k) 0
theorem upW_length (l : List Int) (k : Nat) (h : l.length = 8) (hk : k ≤ 8) : (upW l k).length = 8 := by simp [upW]; omega
theorem upW_set (l : List Int) (k : Nat) (h : l.length = 8) (hk : k < 8) : (upW l k).set k (l.getD k 0) = upW l (k + 1) := by
  unfold upW
  rw [List.set_append_right _ _ (by simp; omega), take_snoc l k (by omega), List.length_take, show k - min k l.length = 0 by omega, show 8 - k = 8 - (k + 1) + 1 by omega, List.replicate_succ, List.set_cons_zero, List.append_assoc]
  rfl
theorem upW_full (l : List Int) (h : l.length = 8) : upW l 8 = l := by simp [upW, ← h]
theorem row_other {w : World} {a : Option Addr} {zs : List Int} {g o : Nat} {u : Value} {cs : List Int} (h : Row w a zs) (hg : w.heap[g]? = some (.cells (us cs).toArray 23 (0, 0))) : Row (w.setCell ⟨g, o, none⟩ u) a zs := by
  rcases h with h | ⟨b, off, rfl, hc⟩
  · exact .inl h
  · refine .inr ⟨b, off, rfl, fun i hi => ?_⟩
    have hne : b ≠ g := fun e => by
      subst e
      have h1 := hc i hi
      simp only [World.cell?, hg] at h1
      have h2 : (us cs).toArray[off + i]? = some (.int .u8 (zs.getD i 0)) := by simpa using h1
      rw [List.getElem?_toArray] at h2
      simp only [us, List.getElem?_map, Option.map_eq_some_iff] at h2
      obtain ⟨y, _, e⟩ := h2
      cases e
    simp only [World.cell?, heap_setCell_other w ⟨g, o, none⟩ b u hne] at hc ⊢
    exact hc i hi
theorem us_row {w : World} {g : Nat} {l : List Int} (h : w.heap[g]? = some (.cells (us l).toArray 23 (0, 0))) : RowU w (some ⟨g, 0, none⟩) l :=
  .inr ⟨g, rfl, fun i hi => blk_cell h (by rw [List.getElem?_toArray, us_get l i hi])⟩
set_option maxRecDepth 100000 in
set_option maxHeartbeats 4000000 in
theorem words26E (kd E : Int) (L : List Int) (p : Pm) (sa ta : Option Addr) (sc tc : Nat) (s t : List Int) (w : World) (H23 : Hid (∀ W, Below w.heap.size w W → Calls Try.prog 17 #[.int .i64 kd, .agg (pcP p (.slice sa s.length sc) (.slice ta t.length tc))] W fun e w' => ∃ a c, e = .returned (.tuple #[.slice a (eS E L).length c, .int .i64 E]) ∧ Pa w' a c (eS E L) ∧ Below W.heap.size W w')) (hE : (E != 0) = true) :
    Calls Try.prog 20 #[.int .i64 kd, .agg (pcP p (.slice sa s.length sc) (.slice ta t.length tc))] w fun e w' => ∃ a c, e = .returned (.tuple #[.slice a (eS E (woL kd L)).length c, .int .i64 E]) ∧ RowU w' a (eS E (woL kd L)) ∧ Below w.heap.size w w' := by
  have hE0 : ¬ E = 0 := by simpa using hE
  have hb := ((Below.refl w.heap.size w).alloc (Nat.le_refl _) (.cells (pcP p (.slice sa s.length sc) (.slice ta t.length tc)) 26))
  have n0 := (heap_new w (.cells (pcP p (.slice sa s.length sc) (.slice ta t.length tc)) 26))
  go_enter Try.func20, Try.ntmps20
  refine wp_seq_k fun K hK => ?_
  have HK := TW.hide hK
  clear hK
  go_wp2
  refine HK.out _ _ ?_
  clear HK K
  change Code.wp _ _ _ _ (w.alloc (.cells (pcP p (.slice sa s.length sc) (.slice ta t.length tc)) 26))
  generalize hWW : w.alloc (.cells (pcP p (.slice sa s.length sc) (.slice ta t.length tc)) 26) = W at hb n0 ⊢
  have hW : W.heap.size = w.heap.size + 1 := by rw [← hWW]; simp
  clear hWW
  generalize hB : w.heap.size = B at *
  have N0 := TW.hide n0
  have NB := TW.hide hb
  clear n0 hb
  clear hW
  refine wp_seq_k fun KK hK => ?_
  have HK := TW.hide hK
  clear hK
  go_wp2_with (refine wpList_load_row (by rfl) 26 _ (by rfl) (B) (by rfl) 26 (pcP p (.slice sa s.length sc) (.slice ta t.length tc)) (0, 0) _ N0.out Try.underlying26 rfl (info31 _ _ _) ?_)
  refine (H23.out _ NB.out).mono ?_
  rintro e w1 ⟨ba, bc, rfl, pa, hb1⟩
  have MB : Hid (Below B w w1) := below_row NB.out hb1 (by have := blk_lt N0.out; omega)
  have PA := TW.hide pa
  clear hb1 N0 NB pa
  go_wp2
  refine HK.out _ _ ?_
  clear HK KK
  go_wp2
  go_ret2
  exact ⟨none, 0, by rw [show eS E (woL kd L) = [] from if_neg hE0]; rfl, .inl (if_neg hE0), MB.out⟩
set_option maxRecDepth 100000 in
set_option maxHeartbeats 4000000 in
theorem words27E (kd E : Int) (L : List Int) (p : Pm) (sa ta : Option Addr) (sc tc : Nat) (s t : List Int) (w : World) (H23 : Hid (∀ W, Below w.heap.size w W → Calls Try.prog 18 #[.int .i64 kd, .agg (pcP p (.slice sa s.length sc) (.slice ta t.length tc))] W fun e w' => ∃ a c, e = .returned (.tuple #[.slice a (eS E L).length c, .int .i64 E]) ∧ Pa w' a c (eS E L) ∧ Below W.heap.size W w')) (hE : (E != 0) = true) :
    Calls Try.prog 21 #[.int .i64 kd, .agg (pcP p (.slice sa s.length sc) (.slice ta t.length tc))] w fun e w' => ∃ a c, e = .returned (.tuple #[.slice a (eS E (woL kd L)).length c, .int .i64 E]) ∧ RowU w' a (eS E (woL kd L)) ∧ Below w.heap.size w w' := by
  have hE0 : ¬ E = 0 := by simpa using hE
  have hb := ((Below.refl w.heap.size w).alloc (Nat.le_refl _) (.cells (pcP p (.slice sa s.length sc) (.slice ta t.length tc)) 26))
  have n0 := (heap_new w (.cells (pcP p (.slice sa s.length sc) (.slice ta t.length tc)) 26))
  go_enter Try.func21, Try.ntmps21
  refine wp_seq_k fun K hK => ?_
  have HK := TW.hide hK
  clear hK
  go_wp2
  refine HK.out _ _ ?_
  clear HK K
  change Code.wp _ _ _ _ (w.alloc (.cells (pcP p (.slice sa s.length sc) (.slice ta t.length tc)) 26))
  generalize hWW : w.alloc (.cells (pcP p (.slice sa s.length sc) (.slice ta t.length tc)) 26) = W at hb n0 ⊢
  have hW : W.heap.size = w.heap.size + 1 := by rw [← hWW]; simp
  clear hWW
  generalize hB : w.heap.size = B at *
  have N0 := TW.hide n0
  have NB := TW.hide hb
  clear n0 hb
  clear hW
  refine wp_seq_k fun KK hK => ?_
  have HK := TW.hide hK
  clear hK
  go_wp2_with (refine wpList_load_row (by rfl) 26 _ (by rfl) (B) (by rfl) 26 (pcP p (.slice sa s.length sc) (.slice ta t.length tc)) (0, 0) _ N0.out Try.underlying26 rfl (info31 _ _ _) ?_)
  refine (H23.out _ NB.out).mono ?_
  rintro e w1 ⟨ba, bc, rfl, pa, hb1⟩
  have MB : Hid (Below B w w1) := below_row NB.out hb1 (by have := blk_lt N0.out; omega)
  have PA := TW.hide pa
  clear hb1 N0 NB pa
  go_wp2
  refine HK.out _ _ ?_
  clear HK KK
  go_wp2
  go_ret2
  exact ⟨none, 0, by rw [show eS E (woL kd L) = [] from if_neg hE0]; rfl, .inl (if_neg hE0), MB.out⟩
set_option maxRecDepth 100000 in
set_option maxHeartbeats 4000000 in
theorem words26 (kd : Int) (L : List Int) (p : Pm) (sa ta : Option Addr) (sc tc : Nat) (s t : List Int) (w : World) (H23 : Hid (∀ W, Below w.heap.size w W → Calls Try.prog 17 #[.int .i64 kd, .agg (pcP p (.slice sa s.length sc) (.slice ta t.length tc))] W fun e w' => ∃ a c, e = .returned (.tuple #[.slice a L.length c, .int .i64 0]) ∧ Pa w' a c L ∧ Below W.heap.size W w'))
    (hk : kd = 1 ∨ kd = 2) (hl : L.length = (mo kd).toNat) (hz : Byt L) :
    Calls Try.prog 20 #[.int .i64 kd, .agg (pcP p (.slice sa s.length sc) (.slice ta t.length tc))] w fun e w' => ∃ a c, e = .returned (.tuple #[.slice a 8 c, .int .i64 0]) ∧ RowU w' a (woL kd L) ∧ Below w.heap.size w w' := by
  have H37 : Hid (∀ W : World, Calls Try.prog 29 #[.int .i64 kd] W fun e w' => e = .returned (.tuple #[.agg (msC kd), .int .i64 (ke kd)]) ∧ Below W.heap.size W w') := fun W => measures kd W
  have H52 := TW.hide (fun (a : Option Addr) (c i : Nat) (W : World) (h : Row W a L) (hi : i < 8) => loadWord kd a c L i W hk hz h hl hi)
  have hmw : mo kd / 8 = (wd kd : Int) := by rcases hk with rfl | rfl <;> rfl
  have hdiv : (mo kd).tdiv (wd kd : Int) = 8 := by rcases hk with rfl | rfl <;> rfl
  have hw0 : ¬ (wd kd : Int) = 0 := by rcases hk with rfl | rfl <;> decide
  have hw8 : wd kd ≤ 8 := by rcases hk with rfl | rfl <;> decide
  have h00 : ((0 : Int) != 0) = false := rfl
  have HWG := TW.hide (fun i h => woL_get kd L i h)
  have HWL := TW.hide (woL_length kd L)
  clear hl
  generalize woL kd L = WL at *
  generalize wd kd = d8 at *
  have hb := ((Below.refl w.heap.size w).alloc (Nat.le_refl _) (.cells (pcP p (.slice sa s.length sc) (.slice ta t.length tc)) 26))
  have n0 := (heap_new w (.cells (pcP p (.slice sa s.length sc) (.slice ta t.length tc)) 26))
  go_enter Try.func20, Try.ntmps20
  refine wp_seq_k fun K hK => ?_
  have HK := TW.hide hK
  clear hK
  go_wp2
  refine HK.out _ _ ?_
  clear HK K
  change Code.wp _ _ _ _ (w.alloc (.cells (pcP p (.slice sa s.length sc) (.slice ta t.length tc)) 26))
  generalize hWW : w.alloc (.cells (pcP p (.slice sa s.length sc) (.slice ta t.length tc)) 26) = W at hb n0 ⊢
  have hW : W.heap.size = w.heap.size + 1 := by rw [← hWW]; simp
  clear hWW
  generalize hB : w.heap.size = B at *
  have N0 := TW.hide n0
  have NB := TW.hide hb
  clear n0 hb
  clear hW
  refine wp_seq_k fun KK hK => ?_
  have HK := TW.hide hK
  clear hK
  go_wp2_with (refine wpList_load_row (by rfl) 26 _ (by rfl) (B) (by rfl) 26 (pcP p (.slice sa s.length sc) (.slice ta t.length tc)) (0, 0) _ N0.out Try.underlying26 rfl (info31 _ _ _) ?_)
  refine (H23.out _ NB.out).mono ?_
  rintro e w1 ⟨ba, bc, rfl, pa, hb1⟩
  have MB : Hid (Below B w w1) := below_row NB.out hb1 (by have := blk_lt N0.out; omega)
  have PA := TW.hide pa
  clear hb1 N0 NB pa
  go_wp2
  refine HK.out _ _ ?_
  clear HK KK
  refine wp_seq_k fun KK hK => ?_
  have HK := TW.hide hK
  clear hK
  go_wp2
  refine HK.out _ _ ?_
  clear HK KK
  refine wp_seq_k fun KK hK => ?_
  have HK := TW.hide hK
  clear hK
  go_wp2_with fail
  refine (H37.out _).mono ?_
  rintro e w2 ⟨rfl, hb2⟩
  have NB : Hid (Below B w w2) := below_row MB.out hb2 (by have := MB.out.size; omega)
  have PA2 := TW.hide (PA.out.below hb2)
  clear hb2 MB PA H37
  go_wp2_with (first | (refine wpList_store_row (by rfl) 70 _ _ (by rfl) (w2.heap.size) (msC kd) (by rfl) (by rfl) 70 _ (heap_new w2 _) (info79 kd) (by rfl) (ms_one kd) ?_))
  have ng := setRow_heap _ _ _ (msC kd) _ _ (heap_new w2 (.cells #[.int .i64 0, .int .i64 0, .int .i64 0, .int .i64 0, .int .i64 0, .int .i64 0] 70))
  have bx := below_setRow (cs := msC kd) ((Below.refl w2.heap.size w2).alloc (Nat.le_refl _) (.cells #[.int .i64 0, .int .i64 0, .int .i64 0, .int .i64 0, .int .i64 0, .int .i64 0] 70)) (g := w2.heap.size) (Nat.le_refl _)
  generalize (w2.alloc (.cells #[.int .i64 0, .int .i64 0, .int .i64 0, .int .i64 0, .int .i64 0, .int .i64 0] 70)).setRow w2.heap.size (msC kd) = X2 at ng bx ⊢
  have MB : Hid (Below B w X2) := below_row NB.out bx (by have := NB.out.size; omega)
  have hBm : B ≤ w2.heap.size := by have := NB.out.size; omega
  have PA := TW.hide (PA2.out.below bx)
  have NM := TW.hide ng
  clear NB ng bx PA2
  generalize w2.heap.size = gm at *
  refine HK.out _ _ ?_
  clear HK KK
  refine wp_seq_k fun KK hK => ?_
  have HK := TW.hide hK
  clear hK
  have c0 : X2.cell? ⟨gm, 0, none⟩ = some (.int .i64 (mo kd)) := blk_cell NM.out rfl
  have c3 : X2.cell? ⟨gm, 3, none⟩ = some (.int .i64 (d8 : Int)) := by rw [← hmw]; exact blk_cell NM.out rfl
  have hmk := mk53 X2
  generalize hZ0 : us (List.replicate 8 0) = Z0 at hmk
  have HZ0 := TW.hide hZ0
  clear hZ0
  have h88 : IntKind.i64.wrap 8 = 8 := by rw [IntKind.wrap_i64]; rfl
  have HM3 : Hid ((msC kd)[3]? = some (.int .i64 (d8 : Int))) := by show _ = _; rw [← hmw]; rfl
  generalize mo kd = mm at *
  go_wp2
  clear c0 c3 hmk
  have nw := heap_new X2 (.cells Z0.toArray 23)
  have bw := (Below.refl X2.heap.size X2).alloc (Nat.le_refl _) (.cells Z0.toArray 23)
  generalize X2.alloc (.cells Z0.toArray 23) = X3 at nw bw ⊢
  rw [← HZ0.out] at nw
  have NM3 := TW.hide (blk_keep NM.out bw)
  have NB : Hid (Below B w X3) := below_row MB.out bw (by have := MB.out.size; omega)
  have PA3 := TW.hide (PA.out.below bw)
  have NW : Hid (X3.heap[X2.heap.size]? = some (.cells (us (upW WL 0)).toArray 23 (0, 0))) := nw
  have hgm := blk_lt NM.out
  have hBX : B ≤ X2.heap.size := by omega
  clear nw bw NM MB PA
  generalize X2.heap.size = gw at *
  refine HK.out _ _ ?_
  clear HK KK
  have HP0 : Hid (∀ Y, Below gw X3 Y → gw < X3.heap.size → True) := fun _ _ _ => trivial
  go_wp2
  go_loopw [34] (fun i wr => ∃ k : Nat, k ≤ 8 ∧ i = .int .i64 k ∧ wr.heap[gm]? = some (.cells (msC kd) 70 (0, 0)) ∧ wr.heap[gw]? = some (.cells (us (upW WL k)).toArray 23 (0, 0)) ∧ Row wr ba L ∧ Below B w wr) (fun i _ => 8 - (intOf i).toNat)
  case atStart => exact ⟨0, Nat.zero_le _, rfl, NM3.out, NW.out, PA3.out.row, NB.out⟩
  case round =>
    obtain ⟨k, hk8, rfl, nm, nw, hrow, hb⟩ := hrel
    clear NM3 NW NB
    have NM := TW.hide nm
    have NW := TW.hide nw
    have NB := TW.hide hb
    have HRW := TW.hide hrow
    by_cases hlt : k < 8
    · have c3 : wr.cell? ⟨gm, 3, none⟩ = some (.int .i64 (d8 : Int)) := blk_cell nm HM3.out
      have hC := H52.out ba bc k wr hrow hlt
      have hg := HWG.out k hlt
      rw [← hg] at hC
      have hsz := upW_set WL k HWL.out hlt
      have hln := upW_length WL k HWL.out hk8
      have cw : wr.cell? ⟨gw, k, none⟩ = some (.int .u64 ((upW WL k).getD k 0)) := blk_cell nw (by rw [List.getElem?_toArray, us_get _ _ (by omega)])
      have fw := frozen_of_row wr gw k _ 23 nw
      have nw2 := blk_set (i := k) (u := .int .u64 (WL.getD k 0)) nw
      rw [List.setIfInBounds_toArray, show (us (upW WL k)).set k (.int .u64 (WL.getD k 0)) = us ((upW WL k).set k (WL.getD k 0)) by simp [us], hsz] at nw2
      have nm2 := blk_other (p := gw) (o := k) (u := .int .u64 (WL.getD k 0)) nm (by omega)
      have hb2 := hb.setCell (p := ⟨gw, k, none⟩) (by simp; omega) (.int .u64 (WL.getD k 0))
      have hr2 : Row (wr.setCell ⟨gw, k, none⟩ (.int .u64 (WL.getD k 0))) ba L := row_other hrow nw
      have NW2 := TW.hide nw2
      have NM2 := TW.hide nm2
      have NB2 := TW.hide hb2
      have HR2 := TW.hide hr2
      have hmul : IntKind.i64.wrap ((k : Int) * (d8 : Int)) = ((k * d8 : Nat) : Int) := by
        have e : (k : Int) * (d8 : Int) = ((k * d8 : Nat) : Int) := by push_cast; rfl
        have : k * d8 ≤ 8 * 8 := Nat.mul_le_mul hk8 hw8
        rw [e, IntKind.wrap_i64]; omega
      generalize ((k * d8 : Nat) : Int) = at_ at hC hmul
      have HC := TW.hide hC
      generalize WL.getD k 0 = z at *
      generalize (upW WL k).getD k 0 = z0 at *
      have q0 : (0 : Int) ≤ (k : Int) := by omega
      have q1 : (k : Int) < 8 := by omega
      clear nm nw hrow hb hC hg hsz hln nw2 nm2 hb2 hr2
      go_wp2_with fail
      refine HC.out.mono ?_
      rintro e w5 ⟨rfl, rfl⟩
      go_wp2
      (first | (go_roundw; case' rel => skip) | (refine ⟨?_, ?measure⟩; (repeat apply Exists.intro); refine ⟨?rel, rfl⟩))
      case rel => exact ⟨k + 1, by omega, by go_num, NM2.out, NW2.out, HR2.out, NB2.out⟩
      case measure => simp [intOf]; omega
    · obtain rfl : k = 8 := by omega
      rw [upW_full WL HWL.out] at nw
      have NW8 := TW.hide nw
      clear nm nw hrow hb NW NM HRW
      go_wp2
      go_ret2
      exact ⟨_, _, rfl, us_row NW8.out, NB.out⟩
set_option maxRecDepth 100000 in
set_option maxHeartbeats 4000000 in
theorem words27 (kd : Int) (L : List Int) (p : Pm) (sa ta : Option Addr) (sc tc : Nat) (s t : List Int) (w : World) (H23 : Hid (∀ W, Below w.heap.size w W → Calls Try.prog 18 #[.int .i64 kd, .agg (pcP p (.slice sa s.length sc) (.slice ta t.length tc))] W fun e w' => ∃ a c, e = .returned (.tuple #[.slice a L.length c, .int .i64 0]) ∧ Pa w' a c L ∧ Below W.heap.size W w'))
    (hk : kd = 1 ∨ kd = 2) (hl : L.length = (mo kd).toNat) (hz : Byt L) :
    Calls Try.prog 21 #[.int .i64 kd, .agg (pcP p (.slice sa s.length sc) (.slice ta t.length tc))] w fun e w' => ∃ a c, e = .returned (.tuple #[.slice a 8 c, .int .i64 0]) ∧ RowU w' a (woL kd L) ∧ Below w.heap.size w w' := by
  obtain ⟨i0, hi, hz0, hz1, hz2⟩ := info_parts info28
  have hwd : wd kd ≤ 8 ∧ 1 ≤ wd kd ∧ 8 * wd kd = L.length := by rw [hl]; rcases hk with rfl | rfl <;> decide
  have H53 : Hid (∀ (a : Option Addr) (c i : Nat) (W : World), Row W a L → i < 8 → Calls Try.prog 48 #[.slice a L.length c, .int .i64 ((i * wd kd : Nat) : Int), .int .i64 (wd kd : Int)] W fun e w' => e = .returned (.int .u64 (le ((L.drop (i * wd kd)).take (wd kd)))) ∧ W = w') := fun a c i W h hi' =>
    rread a c L (i * wd kd) (wd kd) W hz h (by rw [hl]; have := mo_le kd; unfold maxLen; omega) hwd.2.1 hwd.1 (by have : (i + 1) * wd kd ≤ 8 * wd kd := Nat.mul_le_mul_right _ hi'; rw [Nat.add_mul, Nat.one_mul] at this; omega)
  have H12 : Hid (∀ W, Calls Try.prog 44 #[.int .i64 kd] W fun e w' => e = .returned (.int .i64 (mo kd)) ∧ W = w') := fun W => rsize kd W
  have hdiv : (mo kd).tdiv 8 = (wd kd : Int) := by rcases hk with rfl | rfl <;> rfl
  have hw8 := hwd.1
  have h00 : ((0 : Int) != 0) = false := rfl
  have HWG := TW.hide (fun i h => woL_get kd L i h)
  have HWL := TW.hide (woL_length kd L)
  clear hwd hl
  generalize woL kd L = WL at *
  generalize wd kd = d8 at *
  generalize mo kd = mm at *
  have hb := ((Below.refl w.heap.size w).alloc (Nat.le_refl _) (.cells (pcP p (.slice sa s.length sc) (.slice ta t.length tc)) 26))
  have n0 := (heap_new w (.cells (pcP p (.slice sa s.length sc) (.slice ta t.length tc)) 26))
  go_enter Try.func21, Try.ntmps21
  refine wp_seq_k fun K hK => ?_
  have HK := TW.hide hK
  clear hK
  go_wp2
  refine HK.out _ _ ?_
  clear HK K
  change Code.wp _ _ _ _ (w.alloc (.cells (pcP p (.slice sa s.length sc) (.slice ta t.length tc)) 26))
  generalize hWW : w.alloc (.cells (pcP p (.slice sa s.length sc) (.slice ta t.length tc)) 26) = W at hb n0 ⊢
  have hW : W.heap.size = w.heap.size + 1 := by rw [← hWW]; simp
  clear hWW
  generalize hB : w.heap.size = B at *
  have N0 := TW.hide n0
  have NB := TW.hide hb
  clear n0 hb
  clear hW
  refine wp_seq_k fun KK hK => ?_
  have HK := TW.hide hK
  clear hK
  go_wp2_with (refine wpList_load_row (by rfl) 26 _ (by rfl) (B) (by rfl) 26 (pcP p (.slice sa s.length sc) (.slice ta t.length tc)) (0, 0) _ N0.out Try.underlying26 rfl (info31 _ _ _) ?_)
  refine (H23.out _ NB.out).mono ?_
  rintro e w1 ⟨ba, bc, rfl, pa, hb1⟩
  have MB : Hid (Below B w w1) := below_row NB.out hb1 (by have := blk_lt N0.out; omega)
  have PA := TW.hide pa
  clear hb1 N0 NB pa
  go_wp2
  refine HK.out _ _ ?_
  clear HK KK
  refine wp_seq_k fun KK hK => ?_
  have HK := TW.hide hK
  clear hK
  go_wp2
  refine HK.out _ _ ?_
  clear HK KK
  have hwr : IntKind.i64.wrap (d8 : Int) = (d8 : Int) := by rw [IntKind.wrap_i64]; omega
  go_wp2_with fail
  refine (H12.out _).mono ?_
  rintro e w2 ⟨rfl, rfl⟩
  go_wp2
  clear hwr hdiv
  have HR0 := TW.hide PA.out.row
  clear PA
  go_loopw [8, 10] (fun o i wr => ∃ k : Nat, k ≤ 8 ∧ i = .int .i64 k ∧ wr.ownsRow w1.heap.size 23 1 o k (us (WL.take k)) ∧ Below w1.heap.size w1 wr) (fun _ i _ => 8 - (intOf i).toNat)
  case atStart => exact ⟨0, Nat.zero_le _, rfl, World.ownsRow_nil _ _ _ _, Below.refl _ _⟩
  case round =>
    obtain ⟨k, hk8, rfl, hown, hbel⟩ := hrel
    by_cases hlt : k < 8
    · have hsn := take_snoc WL k (by rw [HWL.out]; exact hlt)
      have hg := HWG.out k hlt
      have hC := H53.out ba bc k wr (HR0.out.below hbel) hlt
      rw [← hg] at hC
      generalize WL.getD k 0 = vk at *
      have HC := TW.hide hC
      have HSN := TW.hide hsn
      have HB := TW.hide hbel
      clear hsn hbel hC hg
      have q1 : (k : Int) < 8 := by omega
      have hmul : IntKind.i64.wrap ((k : Int) * (d8 : Int)) = ((k * d8 : Nat) : Int) := by
        have e : (k : Int) * (d8 : Int) = ((k * d8 : Nat) : Int) := by push_cast; rfl
        have : k * d8 ≤ 8 * 8 := Nat.mul_le_mul hk8 hw8
        rw [e, IntKind.wrap_i64]; omega
      go_wp2_with fail
      refine HC.out.mono ?_
      rintro e w5 ⟨rfl, rfl⟩
      go_wp2_with (at_builtin; refine wpList_append_own _ rfl _ _ 47 rfl w1.heap.size 23 i0 (.int .u64 0) 1 8 Try.underlying47 hi hz0 hz1 hz2 rfl (by decide) _ _ _ rfl (hown.alloc _) ⟨wr.heap.size, 0, none⟩ 1 1 [.int .u64 vk] rfl rfl ?c1 ?c2 ?c3 ?c4 ?c5 ?_)
      case c1 => exact one_new28 _ _
      case c2 => intro u hu; simp at hu; subst hu; rfl
      case c3 => unfold maxLen; omega
      case c4 => omega
      case c5 => have := HB.out.size; simp; omega
      intro v' w6 hown' hgrow' _
      have hbel2 : Below w1.heap.size w1 w6 := (HB.out.alloc HB.out.size _).grown hgrow' (by have := HB.out.size; simp; omega) (own_block28 hown)
      have K1' := TW.hide hown'
      have K2' := TW.hide hbel2
      clear hown hown' hgrow' hbel2
      go_wp2
      (first | (go_roundw; case' rel => skip) | (refine ⟨?_, ?measure⟩; (repeat apply Exists.intro); refine ⟨?rel, rfl⟩))
      case rel => exact ⟨k + 1, by omega, by go_num, by rw [HSN.out, us_append]; exact K1'.out, K2'.out⟩
      case measure => simp [intOf]; omega
    · obtain rfl : k = 8 := by omega
      rw [List.take_of_length_le (by rw [HWL.out]; omega)] at hown
      obtain ⟨g, vc, hv, hg, hgl, _, hcells⟩ := us_own (l := WL) (by rw [HWL.out]; exact hown) (by rw [HWL.out]; decide)
      rw [HWL.out] at hv
      subst hv
      have HRU : Hid (RowU wr (some ⟨g, 0, none⟩) WL) := .inr ⟨g, rfl, fun i hi => hcells i hi⟩
      have HBF : Hid (Below B w wr) := MB.out.trans (hbel.mono (by have := MB.out.size; omega))
      clear hown hbel hcells
      go_wp2
      go_ret2
      exact ⟨_, _, rfl, HRU.out, HBF.out⟩
end LW
end Go.Proofs.Ytpcahieaakjaaaa
