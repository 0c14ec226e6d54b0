/-
  What the calls Twin (the program, the document) give, for all parameters.
-/
import Derived.Test.YtpcahieaakjaaaaTheory
namespace Go.Proofs.Ytpcahieaakjaaaa
open Go.RowKit
set_option linter.unusedVariables false
set_option linter.unusedSimpArgs false
namespace LW
open Words
attribute [local go_sem ↓] Go.wp_at_zero Go.wp_at_succ
theorem pc_no_byte (p : Pm) (a b : Option Addr) (n m c d k : Nat) (z : Int) : (pcP p (.slice a n c) (.slice b m d))[k]? ≠ some (.int .u8 z) := by
  intro h
  have hk : k < 11 := by
    rcases Nat.lt_or_ge k 11 with h' | h'
    · exact h'
    · rw [Array.getElem?_eq_none (show (pcP p (.slice a n c) (.slice b m d)).size ≤ k from h')] at h; cases h
  have hc : k = 0 ∨ k = 1 ∨ k = 2 ∨ k = 3 ∨ k = 4 ∨ k = 5 ∨ k = 6 ∨ k = 7 ∨ k = 8 ∨ k = 9 ∨ k = 10 := by omega
  rcases hc with rfl | rfl | rfl | rfl | rfl | rfl | rfl | rfl | rfl | rfl | rfl <;> simp [pcP, pc] at h
theorem pa_setRow {w : World} {a : Option Addr} {c g : Nat} {zs : List Int} {p : Pm} {a1 b1 : Option Addr} {n1 m1 c1 d1 : Nat} {cs : Array Value} (h : Pa w a c zs) (hg : w.heap[g]? = some (.cells (pcP p (.slice a1 n1 c1) (.slice b1 m1 d1)) 26 (0, 0))) : Pa (w.setRow g cs) a c zs := by
  refine ⟨⟨?_, h.nil, h.len, h.cap, h.byt⟩, h.adr⟩
  rcases h.row with h0 | ⟨b, off, rfl, hc⟩
  · exact .inl h0
  · refine .inr ⟨b, off, rfl, fun i hi => ?_⟩
    have hne : b ≠ g := fun e => by
      subst e
      have h1 := hc i hi
      simp only [World.cell?, hg] at h1
      exact pc_no_byte p a1 b1 n1 m1 c1 d1 (off + i) _ (by simpa using h1)
    rw [cell_setRow_other hne]
    exact hc i hi
theorem results_row_tmp2 {P : Program} {fn : Func} {p q r : Tmp} {ty : TypeId} (h : fn.results = #[.cell p ty, .tmp q, .tmp r]) (tmps : Array Value) (w : World) (g : Nat) (t : TypeId) (cs : Array Value) (fr : Nat × Nat) (d : TypeDesc) (v u : Value)
    (hp : tmps.getD p undef = .pointer (some ⟨g, 0, none⟩)) (hq : tmps.getD q undef = v) (hr : tmps.getD r undef = u) (hg : w.heap[g]? = some (.cells cs t fr))
    (hu : P.underlying ty = some d) (hd : (match d with | .struct _ | .array _ _ => true | _ => false) = true) (hi : (P.info? ty).map (·.size) = some cs.size) :
    (results fn tmps).run P w = .ok (.tuple #[.agg cs, v, u]) w := by
  have hp' : tmps[p]?.getD undef = .pointer (some ⟨g, 0, none⟩) := by simpa using hp
  have hq' : tmps[q]?.getD undef = v := by simpa using hq
  have hr' : tmps[r]?.getD undef = u := by simpa using hr
  simp [results, h, hp', hq', hr', asAddr, run_loadVar_row w g t ty cs fr d hg hu hd hi]
set_option maxRecDepth 100000 in
set_option maxHeartbeats 4000000 in
theorem twin31E (kd E : Int) (L : List Int) (p : Pm) (sa ta : Option Addr) (sc tc : Nat) (s t : List Int) (w : World) (H23 : Hid (∀ W, Below w.heap.size w W → Calls Try.prog 17 #[.int .i64 kd, .agg (pcP p (.slice sa s.length sc) (.slice ta t.length tc))] W fun e w' => ∃ a c, e = .returned (.tuple #[.slice a L.length c, .int .i64 E]) ∧ Pa w' a c L ∧ c ≤ 64 ∧ Below W.heap.size W w')) (hE : (E != 0) = true) :
    Calls Try.prog 25 #[.int .i64 kd, .agg (pcP p (.slice sa s.length sc) (.slice ta t.length tc))] w fun e w' => e = .returned (.tuple #[.agg (pcP Pm.zero (.slice none 0 0) (.slice none 0 0)), .bool false, .int .i64 E]) ∧ Below w.heap.size w w' := by
  have hb := (((Below.refl w.heap.size w).alloc (Nat.le_refl _) (.cells (pcP p (.slice sa s.length sc) (.slice ta t.length tc)) 26)).alloc (by simp; try omega) (.cells (pcP Pm.zero (.slice none 0 0) (.slice none 0 0)) 26))
  have n0 := (blk_alloc (o' := .cells (pcP Pm.zero (.slice none 0 0) (.slice none 0 0)) 26) (heap_new w (.cells (pcP p (.slice sa s.length sc) (.slice ta t.length tc)) 26)))
  have n1 := (heap_new (w.alloc (.cells (pcP p (.slice sa s.length sc) (.slice ta t.length tc)) 26)) (.cells (pcP Pm.zero (.slice none 0 0) (.slice none 0 0)) 26))
  rw [show (w.alloc (.cells (pcP p (.slice sa s.length sc) (.slice ta t.length tc)) 26)).heap.size = w.heap.size + 1 by simp] at n1
  go_enter Try.func25, Try.ntmps25
  refine wp_seq_k fun K hK => ?_
  have HK := TW.hide hK
  clear hK
  go_wp2
  refine HK.out _ _ ?_
  clear HK K
  change Code.wp _ _ _ _ ((w.alloc (.cells (pcP p (.slice sa s.length sc) (.slice ta t.length tc)) 26)).alloc (.cells (pcP Pm.zero (.slice none 0 0) (.slice none 0 0)) 26))
  generalize hWW : (w.alloc (.cells (pcP p (.slice sa s.length sc) (.slice ta t.length tc)) 26)).alloc (.cells (pcP Pm.zero (.slice none 0 0) (.slice none 0 0)) 26) = W at hb n0 n1 ⊢
  have hW : W.heap.size = w.heap.size + 1 + 1 := by rw [← hWW]; simp
  clear hWW
  generalize hB : w.heap.size = B at *
  have N0 := TW.hide n0
  have N1 := TW.hide n1
  have NB := TW.hide hb
  clear n0 n1 hb
  clear hW
  refine wp_seq_k fun KK hK => ?_
  have HK := TW.hide hK
  clear hK
  go_wp2_with (refine wpList_load_row (by rfl) 26 _ (by rfl) (B) (by rfl) 26 (pcP p (.slice sa s.length sc) (.slice ta t.length tc)) (0, 0) _ N0.out Try.underlying26 rfl (info31 _ _ _) ?_)
  refine (H23.out _ NB.out).mono ?_
  rintro e w1 ⟨ba, bc, rfl, pa, hbc, hb1⟩
  have M0 := TW.hide (blk_keep N0.out hb1)
  have M1 := TW.hide (blk_keep N1.out hb1)
  have MB : Hid (Below B w w1) := below_row NB.out hb1 (by have := blk_lt N0.out; omega)
  have PE := TW.hide pa
  have HBC := TW.hide hbc
  clear hb1 N0 N1 NB pa hbc
  go_wp2
  refine HK.out _ _ ?_
  clear HK KK
  go_wp2_with (refine wpList_store_row (by rfl) 26 _ _ (by rfl) (B + 1) (pcP Pm.zero (.slice none 0 0) (.slice none 0 0)) (by rfl) (by rfl) 26 _ M1.out (info31 _ _ _) (pc_size _ _ _ _ _ _) (pc_one _ _ _ _ _ _ _) ?_)
  refine bodyPost_ret (v := .tuple #[.agg (pcP Pm.zero (.slice none 0 0) (.slice none 0 0)), .bool false, .int .i64 E]) (results_row_tmp2 (P := Try.prog) Try.results25 _ _ (B + 1) 26 _ (0, 0) _ _ _ (by rfl) (by rfl) (by rfl) (setRow_heap _ _ _ _ _ _ M1.out) Try.underlying26 rfl (info31 _ _ _)) rfl ?_
  exact ⟨rfl, below_setRow MB.out (by omega)⟩
set_option maxRecDepth 100000 in
set_option maxHeartbeats 4000000 in
theorem twin31 (kd E2 : Int) (L S T : List Int) (p P : Pm) (sa ta : Option Addr) (sc tc : Nat) (s t : List Int) (w : World) (H23 : Hid (∀ W, Below w.heap.size w W → Calls Try.prog 17 #[.int .i64 kd, .agg (pcP p (.slice sa s.length sc) (.slice ta t.length tc))] W fun e w' => ∃ a c, e = .returned (.tuple #[.slice a L.length c, .int .i64 0]) ∧ Pa w' a c L ∧ c ≤ 64 ∧ Below W.heap.size W w'))
    (H28 : Hid (∀ a c W, Pb W a c L → c ≤ maxLen → Calls Try.prog 22 #[.int .i64 kd, .slice a L.length c, .bool (p.xof == 0)] W fun e w' => ∃ a c b d, e = .returned (.tuple #[.agg (pcP P (.slice a S.length c) (.slice b T.length d)), .int .i64 E2]) ∧ Pa w' a c S ∧ Pa w' b d T ∧ Below W.heap.size W w'))
    :
    Calls Try.prog 25 #[.int .i64 kd, .agg (pcP p (.slice sa s.length sc) (.slice ta t.length tc))] w fun e w' => ∃ a c b d, e = .returned (.tuple #[.agg (pcP P (.slice a S.length c) (.slice b T.length d)), .bool (E2 == 0), .int .i64 0]) ∧ Pa w' a c S ∧ Pa w' b d T ∧ Below w.heap.size w w' := by
  have h00 : ((0 : Int) != 0) = false := rfl
  have hb := (((Below.refl w.heap.size w).alloc (Nat.le_refl _) (.cells (pcP p (.slice sa s.length sc) (.slice ta t.length tc)) 26)).alloc (by simp; try omega) (.cells (pcP Pm.zero (.slice none 0 0) (.slice none 0 0)) 26))
  have n0 := (blk_alloc (o' := .cells (pcP Pm.zero (.slice none 0 0) (.slice none 0 0)) 26) (heap_new w (.cells (pcP p (.slice sa s.length sc) (.slice ta t.length tc)) 26)))
  have n1 := (heap_new (w.alloc (.cells (pcP p (.slice sa s.length sc) (.slice ta t.length tc)) 26)) (.cells (pcP Pm.zero (.slice none 0 0) (.slice none 0 0)) 26))
  rw [show (w.alloc (.cells (pcP p (.slice sa s.length sc) (.slice ta t.length tc)) 26)).heap.size = w.heap.size + 1 by simp] at n1
  go_enter Try.func25, Try.ntmps25
  refine wp_seq_k fun K hK => ?_
  have HK := TW.hide hK
  clear hK
  go_wp2
  refine HK.out _ _ ?_
  clear HK K
  change Code.wp _ _ _ _ ((w.alloc (.cells (pcP p (.slice sa s.length sc) (.slice ta t.length tc)) 26)).alloc (.cells (pcP Pm.zero (.slice none 0 0) (.slice none 0 0)) 26))
  generalize hWW : (w.alloc (.cells (pcP p (.slice sa s.length sc) (.slice ta t.length tc)) 26)).alloc (.cells (pcP Pm.zero (.slice none 0 0) (.slice none 0 0)) 26) = W at hb n0 n1 ⊢
  have hW : W.heap.size = w.heap.size + 1 + 1 := by rw [← hWW]; simp
  clear hWW
  generalize hB : w.heap.size = B at *
  have N0 := TW.hide n0
  have N1 := TW.hide n1
  have NB := TW.hide hb
  clear n0 n1 hb
  clear hW
  refine wp_seq_k fun KK hK => ?_
  have HK := TW.hide hK
  clear hK
  go_wp2_with (refine wpList_load_row (by rfl) 26 _ (by rfl) (B) (by rfl) 26 (pcP p (.slice sa s.length sc) (.slice ta t.length tc)) (0, 0) _ N0.out Try.underlying26 rfl (info31 _ _ _) ?_)
  refine (H23.out _ NB.out).mono ?_
  rintro e w1 ⟨ba, bc, rfl, pa, hbc, hb1⟩
  have M0 := TW.hide (blk_keep N0.out hb1)
  have M1 := TW.hide (blk_keep N1.out hb1)
  have MB : Hid (Below B w w1) := below_row NB.out hb1 (by have := blk_lt N0.out; omega)
  have PE := TW.hide pa
  have HBC := TW.hide hbc
  clear hb1 N0 N1 NB pa hbc
  go_wp2
  refine HK.out _ _ ?_
  clear HK KK
  refine wp_seq_k fun KK hK => ?_
  have HK := TW.hide hK
  clear hK
  go_wp2
  refine HK.out _ _ ?_
  clear HK KK
  refine wp_seq_k fun KK hK => ?_
  have HK := TW.hide hK
  clear hK
  have cx : w1.cell? ⟨B, 6, none⟩ = some (.int .u32 p.xof) := blk_cell M0.out rfl
  generalize hXO : (p.xof == 0) = xo at *
  go_wp2_with fail
  refine (H28.out _ _ _ PE.out.toPb (by have := HBC.out; unfold maxLen; omega)).mono ?_
  rintro e w2 ⟨a2, c2, b2, d2, rfl, pa, pb, hb2⟩
  have N1 := TW.hide (blk_keep M1.out hb2)
  have NB : Hid (Below B w w2) := below_row MB.out hb2 (by have := blk_lt M0.out; omega)
  clear hb2 M0 M1 MB PE HBC cx
  go_wp2_with (first | (refine wpList_store_row (by rfl) 26 _ _ (by rfl) (w2.heap.size) (pcP P (.slice a2 S.length c2) (.slice b2 T.length d2)) (by rfl) (by rfl) 26 _ (heap_new w2 _) (info31 _ _ _) (pc_size Pm.zero _ _ _ _ _) (pc_one _ _ _ _ _ _ _) ?_))
  have nq := setRow_heap _ _ _ (pcP P (.slice a2 S.length c2) (.slice b2 T.length d2)) _ _ (heap_new w2 (.cells #[.int .i64 0, .int .i64 0, .int .i64 0, .int .i64 0, .int .u32 0, .int .u64 0, .int .u32 0, .int .i64 0, .int .i64 0, .slice none 0 0, .slice none 0 0] 26))
  have bx := below_setRow (cs := (pcP P (.slice a2 S.length c2) (.slice b2 T.length d2))) ((Below.refl w2.heap.size w2).alloc (Nat.le_refl _) (.cells #[.int .i64 0, .int .i64 0, .int .i64 0, .int .i64 0, .int .u32 0, .int .u64 0, .int .u32 0, .int .i64 0, .int .i64 0, .slice none 0 0, .slice none 0 0] 26)) (g := w2.heap.size) (Nat.le_refl _)
  generalize (w2.alloc (.cells #[.int .i64 0, .int .i64 0, .int .i64 0, .int .i64 0, .int .u32 0, .int .u64 0, .int .u32 0, .int .i64 0, .int .i64 0, .slice none 0 0, .slice none 0 0] 26)).setRow w2.heap.size (pcP P (.slice a2 S.length c2) (.slice b2 T.length d2)) = X2 at nq bx ⊢
  have M1 := TW.hide (blk_keep N1.out bx)
  have MB : Hid (Below B w X2) := below_row NB.out bx (by have := NB.out.size; omega)
  have NQ := TW.hide nq
  have PA := TW.hide (pa.below bx)
  have PB := TW.hide (pb.below bx)
  have hq1 := blk_lt N1.out
  clear nq bx pa pb N1 NB
  generalize w2.heap.size = gq at *
  refine HK.out _ _ ?_
  clear HK KK
  go_wp2_with (first | (refine wpList_load_row (by rfl) 26 _ (by rfl) (gq) (by rfl) 26 (pcP P (.slice a2 S.length c2) (.slice b2 T.length d2)) (0, 0) _ NQ.out Try.underlying26 rfl (info31 _ _ _) ?_) | (refine wpList_store_row (by rfl) 26 _ _ (by rfl) (B + 1) (pcP P (.slice a2 S.length c2) (.slice b2 T.length d2)) (by rfl) (by rfl) 26 _ M1.out (info31 _ _ _) (pc_size _ _ _ _ _ _) (pc_one _ _ _ _ _ _ _) ?_))
  refine bodyPost_ret (v := .tuple #[.agg (pcP P (.slice a2 S.length c2) (.slice b2 T.length d2)), .bool (E2 == 0), .int .i64 0]) (results_row_tmp2 (P := Try.prog) Try.results25 _ _ (B + 1) 26 _ (0, 0) _ _ _ (by rfl) (by rfl) (by rfl) (setRow_heap _ _ _ _ _ _ M1.out) Try.underlying26 rfl (info31 _ _ _)) rfl ?_
  exact ⟨_, _, _, _, rfl, pa_setRow PA.out M1.out, pa_setRow PB.out M1.out, below_setRow MB.out (by omega)⟩
set_option maxRecDepth 100000 in
set_option maxHeartbeats 4000000 in
theorem twin32E (kd E : Int) (L : List Int) (p : Pm) (sa ta : Option Addr) (sc tc : Nat) (s t : List Int) (w : World) (H23 : Hid (∀ W, Below w.heap.size w W → Calls Try.prog 18 #[.int .i64 kd, .agg (pcP p (.slice sa s.length sc) (.slice ta t.length tc))] W fun e w' => ∃ a c, e = .returned (.tuple #[.slice a L.length c, .int .i64 E]) ∧ Pa w' a c L ∧ c ≤ 64 ∧ Below W.heap.size W w')) (hE : (E != 0) = true) :
    Calls Try.prog 26 #[.int .i64 kd, .agg (pcP p (.slice sa s.length sc) (.slice ta t.length tc))] w fun e w' => e = .returned (.tuple #[.agg (pcP Pm.zero (.slice none 0 0) (.slice none 0 0)), .bool false, .int .i64 E]) ∧ Below w.heap.size w w' := by
  have hb := (((Below.refl w.heap.size w).alloc (Nat.le_refl _) (.cells (pcP p (.slice sa s.length sc) (.slice ta t.length tc)) 26)).alloc (by simp; try omega) (.cells (pcP Pm.zero (.slice none 0 0) (.slice none 0 0)) 26))
  have n0 := (blk_alloc (o' := .cells (pcP Pm.zero (.slice none 0 0) (.slice none 0 0)) 26) (heap_new w (.cells (pcP p (.slice sa s.length sc) (.slice ta t.length tc)) 26)))
  have n1 := (heap_new (w.alloc (.cells (pcP p (.slice sa s.length sc) (.slice ta t.length tc)) 26)) (.cells (pcP Pm.zero (.slice none 0 0) (.slice none 0 0)) 26))
  rw [show (w.alloc (.cells (pcP p (.slice sa s.length sc) (.slice ta t.length tc)) 26)).heap.size = w.heap.size + 1 by simp] at n1
  go_enter Try.func26, Try.ntmps26
  refine wp_seq_k fun K hK => ?_
  have HK := TW.hide hK
  clear hK
  go_wp2
  refine HK.out _ _ ?_
  clear HK K
  change Code.wp _ _ _ _ ((w.alloc (.cells (pcP p (.slice sa s.length sc) (.slice ta t.length tc)) 26)).alloc (.cells (pcP Pm.zero (.slice none 0 0) (.slice none 0 0)) 26))
  generalize hWW : (w.alloc (.cells (pcP p (.slice sa s.length sc) (.slice ta t.length tc)) 26)).alloc (.cells (pcP Pm.zero (.slice none 0 0) (.slice none 0 0)) 26) = W at hb n0 n1 ⊢
  have hW : W.heap.size = w.heap.size + 1 + 1 := by rw [← hWW]; simp
  clear hWW
  generalize hB : w.heap.size = B at *
  have N0 := TW.hide n0
  have N1 := TW.hide n1
  have NB := TW.hide hb
  clear n0 n1 hb
  clear hW
  refine wp_seq_k fun KK hK => ?_
  have HK := TW.hide hK
  clear hK
  go_wp2_with (refine wpList_load_row (by rfl) 26 _ (by rfl) (B) (by rfl) 26 (pcP p (.slice sa s.length sc) (.slice ta t.length tc)) (0, 0) _ N0.out Try.underlying26 rfl (info31 _ _ _) ?_)
  refine (H23.out _ NB.out).mono ?_
  rintro e w1 ⟨ba, bc, rfl, pa, hbc, hb1⟩
  have M0 := TW.hide (blk_keep N0.out hb1)
  have M1 := TW.hide (blk_keep N1.out hb1)
  have MB : Hid (Below B w w1) := below_row NB.out hb1 (by have := blk_lt N0.out; omega)
  have PE := TW.hide pa
  have HBC := TW.hide hbc
  clear hb1 N0 N1 NB pa hbc
  go_wp2
  refine HK.out _ _ ?_
  clear HK KK
  go_wp2_with (refine wpList_store_row (by rfl) 26 _ _ (by rfl) (B + 1) (pcP Pm.zero (.slice none 0 0) (.slice none 0 0)) (by rfl) (by rfl) 26 _ M1.out (info31 _ _ _) (pc_size _ _ _ _ _ _) (pc_one _ _ _ _ _ _ _) ?_)
  refine bodyPost_ret (v := .tuple #[.agg (pcP Pm.zero (.slice none 0 0) (.slice none 0 0)), .bool false, .int .i64 E]) (results_row_tmp2 (P := Try.prog) Try.results26 _ _ (B + 1) 26 _ (0, 0) _ _ _ (by rfl) (by rfl) (by rfl) (setRow_heap _ _ _ _ _ _ M1.out) Try.underlying26 rfl (info31 _ _ _)) rfl ?_
  exact ⟨rfl, below_setRow MB.out (by omega)⟩
set_option maxRecDepth 100000 in
set_option maxHeartbeats 4000000 in
theorem twin32 (kd E2 : Int) (L S T : List Int) (p P : Pm) (sa ta : Option Addr) (sc tc : Nat) (s t : List Int) (w : World) (H23 : Hid (∀ W, Below w.heap.size w W → Calls Try.prog 18 #[.int .i64 kd, .agg (pcP p (.slice sa s.length sc) (.slice ta t.length tc))] W fun e w' => ∃ a c, e = .returned (.tuple #[.slice a L.length c, .int .i64 0]) ∧ Pa w' a c L ∧ c ≤ 64 ∧ Below W.heap.size W w'))
    (H28 : Hid (∀ a c W, Pb W a c L → c ≤ maxLen → Calls Try.prog 23 #[.int .i64 kd, .slice a L.length c, .bool (p.xof == 0)] W fun e w' => ∃ a c b d, e = .returned (.tuple #[.agg (pcP P (.slice a S.length c) (.slice b T.length d)), .int .i64 E2]) ∧ Pa w' a c S ∧ Pa w' b d T ∧ Below W.heap.size W w'))
    (hz : (E2 != 0) = true → P = Pm.zero ∧ S = [] ∧ T = []) :
    Calls Try.prog 26 #[.int .i64 kd, .agg (pcP p (.slice sa s.length sc) (.slice ta t.length tc))] w fun e w' => ∃ a c b d, e = .returned (.tuple #[.agg (pcP P (.slice a S.length c) (.slice b T.length d)), .bool (E2 == 0), .int .i64 0]) ∧ Pa w' a c S ∧ Pa w' b d T ∧ Below w.heap.size w w' := by
  have h00 : ((0 : Int) != 0) = false := rfl
  have hb := (((Below.refl w.heap.size w).alloc (Nat.le_refl _) (.cells (pcP p (.slice sa s.length sc) (.slice ta t.length tc)) 26)).alloc (by simp; try omega) (.cells (pcP Pm.zero (.slice none 0 0) (.slice none 0 0)) 26))
  have n0 := (blk_alloc (o' := .cells (pcP Pm.zero (.slice none 0 0) (.slice none 0 0)) 26) (heap_new w (.cells (pcP p (.slice sa s.length sc) (.slice ta t.length tc)) 26)))
  have n1 := (heap_new (w.alloc (.cells (pcP p (.slice sa s.length sc) (.slice ta t.length tc)) 26)) (.cells (pcP Pm.zero (.slice none 0 0) (.slice none 0 0)) 26))
  rw [show (w.alloc (.cells (pcP p (.slice sa s.length sc) (.slice ta t.length tc)) 26)).heap.size = w.heap.size + 1 by simp] at n1
  go_enter Try.func26, Try.ntmps26
  refine wp_seq_k fun K hK => ?_
  have HK := TW.hide hK
  clear hK
  go_wp2
  refine HK.out _ _ ?_
  clear HK K
  change Code.wp _ _ _ _ ((w.alloc (.cells (pcP p (.slice sa s.length sc) (.slice ta t.length tc)) 26)).alloc (.cells (pcP Pm.zero (.slice none 0 0) (.slice none 0 0)) 26))
  generalize hWW : (w.alloc (.cells (pcP p (.slice sa s.length sc) (.slice ta t.length tc)) 26)).alloc (.cells (pcP Pm.zero (.slice none 0 0) (.slice none 0 0)) 26) = W at hb n0 n1 ⊢
  have hW : W.heap.size = w.heap.size + 1 + 1 := by rw [← hWW]; simp
  clear hWW
  generalize hB : w.heap.size = B at *
  have N0 := TW.hide n0
  have N1 := TW.hide n1
  have NB := TW.hide hb
  clear n0 n1 hb
  clear hW
  refine wp_seq_k fun KK hK => ?_
  have HK := TW.hide hK
  clear hK
  go_wp2_with (refine wpList_load_row (by rfl) 26 _ (by rfl) (B) (by rfl) 26 (pcP p (.slice sa s.length sc) (.slice ta t.length tc)) (0, 0) _ N0.out Try.underlying26 rfl (info31 _ _ _) ?_)
  refine (H23.out _ NB.out).mono ?_
  rintro e w1 ⟨ba, bc, rfl, pa, hbc, hb1⟩
  have M0 := TW.hide (blk_keep N0.out hb1)
  have M1 := TW.hide (blk_keep N1.out hb1)
  have MB : Hid (Below B w w1) := below_row NB.out hb1 (by have := blk_lt N0.out; omega)
  have PE := TW.hide pa
  have HBC := TW.hide hbc
  clear hb1 N0 N1 NB pa hbc
  go_wp2
  refine HK.out _ _ ?_
  clear HK KK
  refine wp_seq_k fun KK hK => ?_
  have HK := TW.hide hK
  clear hK
  go_wp2
  refine HK.out _ _ ?_
  clear HK KK
  refine wp_seq_k fun KK hK => ?_
  have HK := TW.hide hK
  clear hK
  have cx : w1.cell? ⟨B, 6, none⟩ = some (.int .u32 p.xof) := blk_cell M0.out rfl
  generalize hXO : (p.xof == 0) = xo at *
  go_wp2_with fail
  refine (H28.out _ _ _ PE.out.toPb (by have := HBC.out; unfold maxLen; omega)).mono ?_
  rintro e w2 ⟨a2, c2, b2, d2, rfl, pa, pb, hb2⟩
  have N1 := TW.hide (blk_keep M1.out hb2)
  have NB : Hid (Below B w w2) := below_row MB.out hb2 (by have := blk_lt M0.out; omega)
  clear hb2 M0 M1 MB PE HBC cx
  go_wp2_with (first | (refine wpList_store_row (by rfl) 26 _ _ (by rfl) (w2.heap.size) (pcP P (.slice a2 S.length c2) (.slice b2 T.length d2)) (by rfl) (by rfl) 26 _ (heap_new w2 _) (info31 _ _ _) (pc_size Pm.zero _ _ _ _ _) (pc_one _ _ _ _ _ _ _) ?_))
  have nq := setRow_heap _ _ _ (pcP P (.slice a2 S.length c2) (.slice b2 T.length d2)) _ _ (heap_new w2 (.cells #[.int .i64 0, .int .i64 0, .int .i64 0, .int .i64 0, .int .u32 0, .int .u64 0, .int .u32 0, .int .i64 0, .int .i64 0, .slice none 0 0, .slice none 0 0] 26))
  have bx := below_setRow (cs := (pcP P (.slice a2 S.length c2) (.slice b2 T.length d2))) ((Below.refl w2.heap.size w2).alloc (Nat.le_refl _) (.cells #[.int .i64 0, .int .i64 0, .int .i64 0, .int .i64 0, .int .u32 0, .int .u64 0, .int .u32 0, .int .i64 0, .int .i64 0, .slice none 0 0, .slice none 0 0] 26)) (g := w2.heap.size) (Nat.le_refl _)
  generalize (w2.alloc (.cells #[.int .i64 0, .int .i64 0, .int .i64 0, .int .i64 0, .int .u32 0, .int .u64 0, .int .u32 0, .int .i64 0, .int .i64 0, .slice none 0 0, .slice none 0 0] 26)).setRow w2.heap.size (pcP P (.slice a2 S.length c2) (.slice b2 T.length d2)) = X2 at nq bx ⊢
  have M1 := TW.hide (blk_keep N1.out bx)
  have MB : Hid (Below B w X2) := below_row NB.out bx (by have := NB.out.size; omega)
  have NQ := TW.hide nq
  have PA := TW.hide (pa.below bx)
  have PB := TW.hide (pb.below bx)
  have hq1 := blk_lt N1.out
  clear nq bx pa pb N1 NB
  generalize w2.heap.size = gq at *
  refine HK.out _ _ ?_
  clear HK KK
  cases hE2 : (E2 != 0) with
  | true =>
    have h20 : (E2 == 0) = false := by simpa [bne] using hE2
    obtain ⟨rfl, rfl, rfl⟩ := hz hE2
    go_wp2_with (refine wpList_store_row (by rfl) 26 _ _ (by rfl) (B + 1) (pcP Pm.zero (.slice none 0 0) (.slice none 0 0)) (by rfl) (by rfl) 26 _ M1.out (info31 _ _ _) (pc_size _ _ _ _ _ _) (pc_one _ _ _ _ _ _ _) ?_)
    refine bodyPost_ret (v := .tuple #[.agg (pcP Pm.zero (.slice none 0 0) (.slice none 0 0)), .bool false, .int .i64 0]) (results_row_tmp2 (P := Try.prog) Try.results26 _ _ (B + 1) 26 _ (0, 0) _ _ _ (by rfl) (by rfl) (by rfl) (setRow_heap _ _ _ _ _ _ M1.out) Try.underlying26 rfl (info31 _ _ _)) rfl ?_
    exact ⟨none, 0, none, 0, rfl, nil_Pa _, nil_Pa _, below_setRow MB.out (by omega)⟩
  | false =>
    have h20 : (E2 == 0) = true := by simpa [bne] using hE2
    refine wp_seq_k fun KK hK => ?_
    have HK := TW.hide hK
    clear hK
    go_wp2
    refine HK.out _ _ ?_
    clear HK KK
    go_wp2_with (first | (refine wpList_load_row (by rfl) 26 _ (by rfl) (gq) (by rfl) 26 (pcP P (.slice a2 S.length c2) (.slice b2 T.length d2)) (0, 0) _ NQ.out Try.underlying26 rfl (info31 _ _ _) ?_) | (refine wpList_store_row (by rfl) 26 _ _ (by rfl) (B + 1) (pcP P (.slice a2 S.length c2) (.slice b2 T.length d2)) (by rfl) (by rfl) 26 _ M1.out (info31 _ _ _) (pc_size _ _ _ _ _ _) (pc_one _ _ _ _ _ _ _) ?_))
    refine bodyPost_ret (v := .tuple #[.agg (pcP P (.slice a2 S.length c2) (.slice b2 T.length d2)), .bool true, .int .i64 0]) (results_row_tmp2 (P := Try.prog) Try.results26 _ _ (B + 1) 26 _ (0, 0) _ _ _ (by rfl) (by rfl) (by rfl) (setRow_heap _ _ _ _ _ _ M1.out) Try.underlying26 rfl (info31 _ _ _)) rfl ?_
    exact ⟨_, _, _, _, (by first | rfl | rw [h20]), pa_setRow PA.out M1.out, pa_setRow PB.out M1.out, below_setRow MB.out (by omega)⟩
end LW
end Go.Proofs.Ytpcahieaakjaaaa
