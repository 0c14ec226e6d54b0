/-
  What Pack of the document gives.
-/
import Derived.Test.YtcpegipojkbcoaaFits
import Derived.Test.YtcpegipojkbcoaaStoreR
import Derived.Test.YtcpegipojkbcoaaRSize
namespace Go.Proofs.Ytcpegipojkbcoaa
open Go.RowKit
set_option linter.unusedVariables false
set_option linter.unusedSimpArgs false
namespace LW
open Words
theorem vd_inn {T : Tr} (h : vd T = 0) : 1 ≤ T.inn ∧ T.inn ≤ 64 := by
  unfold vd at h
  split at h
  · cases h
  · split at h
    · cases h
    · rename_i g1 g2
      simp only [ou, Bool.or_eq_true, Bool.and_eq_true, decide_eq_true_eq, not_or] at g2
      have : mo T.k ≤ 64 := by unfold mo; split <;> (try split) <;> omega
      omega
theorem onesV (zs : List Int) : ∀ u ∈ vs zs, u.oneCell' = true := by
  intro u hu
  simp only [vs, List.mem_map] at hu
  obtain ⟨z, _, rfl⟩ := hu
  rfl
theorem rowCs {w : World} {b off : Nat} {zs : List Int} (h : Row w (some ⟨b, off, none⟩) zs) : ∀ (j : Nat) (u : Value), (vs zs)[j]? = some u → w.cell? ((⟨b, off, none⟩ : Addr).add j) = some u := by
  intro j u hj
  have hjl : j < zs.length := by
    rcases Nat.lt_or_ge j zs.length with h' | h'
    · exact h'
    · rw [List.getElem?_eq_none (by rw [vs_length]; exact h')] at hj; cases hj
  rw [vs_get zs j hjl] at hj
  rcases h with rfl | ⟨b', off', he, hc⟩
  · simp at hjl
  · cases he
    rw [← hj, ← hc j hjl, Addr.add_mid]
/-- All bytes of steps, one behind the other. -/
def flS (s : Stp) : List Int := s.1.flatten ++ s.2.flatten
def flA (ss : List Stp) : List Int := (ss.map flS).flatten
theorem flat_snoc (l : List (List Int)) (k : Nat) (h : k < l.length) : (l.take (k + 1)).flatten = (l.take k).flatten ++ l.getD k [] := by
  rw [List.take_succ_eq_append_getElem h, List.flatten_append, List.getD_eq_getElem?_getD, List.getElem?_eq_getElem h]
  simp
theorem flA_snoc (ss : List Stp) (k : Nat) (h : k < ss.length) : flA (ss.take (k + 1)) = flA (ss.take k) ++ flS (ss.getD k ([], [])) := by
  unfold flA
  rw [List.take_succ_eq_append_getElem h, List.map_append, List.flatten_append, List.getD_eq_getElem?_getD, List.getElem?_eq_getElem h]
  simp
theorem flA_le (ss : List Stp) (k : Nat) : (flA (ss.take k)).length ≤ (flA ss).length := by
  unfold flA
  rw [List.length_flatten, List.length_flatten]
  conv => rhs; rw [← List.take_append_drop k ss]
  rw [List.map_append, List.map_append, List.sum_append]
  omega
theorem flat_le (ls : List (List Int)) (k : Nat) : ((ls.take k).flatten).length ≤ ls.flatten.length := by
  rw [List.length_flatten, List.length_flatten]
  conv => rhs; rw [← List.take_append_drop k ls]
  rw [List.map_append, List.sum_append]
  omega
/-- What Pack tells of errors. -/
def pkF (T : Tr) (t l : Nat) (ss : List Stp) : Prop := FitP (aw T (roL T t) l) (wF T (roL T t) l) (wT T t (roL T t) l) T.inn (roL T t).length ss
def decI (ls : List (List Int)) (inn : Int) : Decidable (AllI ls inn) := by
  unfold AllI
  exact inferInstance
def decK (T : Tr) (t l : Nat) (ss : List Stp) : Decidable (pkF T t l ss) :=
  have d : ∀ ls, Decidable (AllI ls T.inn) := fun ls => decI ls T.inn
  decidable_of_iff (ss.length = (roL T t).length - 1 ∧ ∀ i, i < (roL T t).length - 1 → (((ss.getD i ([], [])).1.length = aw T (roL T t) l i - wF T (roL T t) l (i + 1)) ∧ ((ss.getD i ([], [])).2.length = wT T t (roL T t) l (i + 1) - aw T (roL T t) l i - 1) ∧ AllI (ss.getD i ([], [])).1 T.inn ∧ AllI (ss.getD i ([], [])).2 T.inn))
    ⟨fun h => ⟨h.1, fun i hi => h.2 i (by omega)⟩, fun h => ⟨h.1, fun i hi => h.2 i (by omega)⟩⟩
def pkE (T : Tr) (t l : Nat) (ss : List Stp) : Int := if waE T t l = 0 then (@ite _ (pkF T t l ss) (decK T t l ss) 0 4) else waE T t l
/-- The bytes that Pack tells. -/
def pkL (T : Tr) (t l : Nat) (ss : List Stp) : List Int := if pkE T t l ss = 0 then un t 8 ++ un l 8 ++ flA ss else []
set_option maxRecDepth 100000 in
set_option maxHeartbeats 2000000 in
theorem rpackE (T : Tr) (t l : Nat) (a : Option Addr) (n c : Nat) (E : Int) (hE : E ≠ 0) (H : ∀ W, Calls Try.prog 16 #[.agg (trC T), .int .u64 t, .int .u64 l] W fun e w' => e = .returned (.tuple #[.slice none 0 0, .int .i64 E]) ∧ Below W.heap.size W w') (w : World) : Calls Try.prog 9 #[.agg (trC T), .agg (paC t l a n c)] w fun e w' => e = .returned (.tuple #[.slice none 0 0, .int .i64 E]) ∧ Below w.heap.size w w' := by
  have HL := TW.hide H
  clear H
  unfold trC paC at *
  have n0 := heap_alloc_new w (.cells #[.int .i64 T.k, .int .i64 T.d, .int .i64 T.f, .int .i64 T.dp, .int .u32 T.lf, .int .i64 T.inn, .slice T.ka T.kl T.kc, .slice T.sa T.sl T.sc, .slice T.pa T.pl T.pc] 26)
  have hb0 := (Below.refl w.heap.size w).alloc (Nat.le_refl _) (.cells #[.int .i64 T.k, .int .i64 T.d, .int .i64 T.f, .int .i64 T.dp, .int .u32 T.lf, .int .i64 T.inn, .slice T.ka T.kl T.kc, .slice T.sa T.sl T.sc, .slice T.pa T.pl T.pc] 26)
  have n1 := heap_alloc_new (w.alloc (.cells #[.int .i64 T.k, .int .i64 T.d, .int .i64 T.f, .int .i64 T.dp, .int .u32 T.lf, .int .i64 T.inn, .slice T.ka T.kl T.kc, .slice T.sa T.sl T.sc, .slice T.pa T.pl T.pc] 26)) (.cells #[.int .u64 t, .int .u64 l, .slice a n c] 37)
  rw [show (w.alloc (.cells #[.int .i64 T.k, .int .i64 T.d, .int .i64 T.f, .int .i64 T.dp, .int .u32 T.lf, .int .i64 T.inn, .slice T.ka T.kl T.kc, .slice T.sa T.sl T.sc, .slice T.pa T.pl T.pc] 26)).heap.size = w.heap.size + 1 by simp] at n1
  have n0 := blk_alloc (o' := .cells #[.int .u64 t, .int .u64 l, .slice a n c] 37) n0
  have hb1 := hb0.alloc hb0.size (.cells #[.int .u64 t, .int .u64 l, .slice a n c] 37)
  have N0 := TW.hide n0
  have N1 := TW.hide n1
  have B0 := TW.hide hb1
  clear n0 n1 hb0 hb1
  go_enter Try.func9, Try.ntmps9
  refine wp_seq_k fun K hK => ?_
  have HK := TW.hide hK
  clear hK
  go_wp2_with fail
  refine HK.out _ _ ?_
  clear HK K
  generalize (w.alloc _).alloc _ = X at *
  obtain ⟨c0, c1, c2, c3, c4, c5, c6, c7, c8⟩ := cells9 N0.out
  obtain ⟨d0, d1, d2⟩ := cellsP3 N1.out
  go_wp2_with fail
  refine (HL.out _).mono ?_
  rintro e1 w1 ⟨rfl, hb⟩
  have HB1 : Hid (Below w.heap.size w w1) := B0.out.trans (hb.mono B0.out.size)
  have hE' : (E != 0) = true := by simp [hE]
  clear hb
  go_wp2
  go_ret2
  exact ⟨rfl, HB1.out⟩
set_option maxRecDepth 100000 in
set_option maxHeartbeats 2000000 in
theorem rpackN (T : Tr) (t l : Nat) (a : Option Addr) (n c : Nat) (w : World) (H : ∀ W, Calls Try.prog 16 #[.agg (trC T), .int .u64 t, .int .u64 l] W fun e w' => ∃ v, e = .returned (.tuple #[v, .int .i64 0]) ∧ Hid (Below w.heap.size w W → ∀ W2, Below w'.heap.size w' W2 → Calls Try.prog 21 #[.agg (trC T), .agg (paC t l a n c), v] W2 fun e w' => e = .returned (.bool false) ∧ Below W2.heap.size W2 w') ∧ Below W.heap.size W w') : Calls Try.prog 9 #[.agg (trC T), .agg (paC t l a n c)] w fun e w' => e = .returned (.tuple #[.slice none 0 0, .int .i64 4]) ∧ Below w.heap.size w w' := by
  have HL := TW.hide H
  clear H
  unfold trC paC at *
  have n0 := heap_alloc_new w (.cells #[.int .i64 T.k, .int .i64 T.d, .int .i64 T.f, .int .i64 T.dp, .int .u32 T.lf, .int .i64 T.inn, .slice T.ka T.kl T.kc, .slice T.sa T.sl T.sc, .slice T.pa T.pl T.pc] 26)
  have hb0 := (Below.refl w.heap.size w).alloc (Nat.le_refl _) (.cells #[.int .i64 T.k, .int .i64 T.d, .int .i64 T.f, .int .i64 T.dp, .int .u32 T.lf, .int .i64 T.inn, .slice T.ka T.kl T.kc, .slice T.sa T.sl T.sc, .slice T.pa T.pl T.pc] 26)
  have n1 := heap_alloc_new (w.alloc (.cells #[.int .i64 T.k, .int .i64 T.d, .int .i64 T.f, .int .i64 T.dp, .int .u32 T.lf, .int .i64 T.inn, .slice T.ka T.kl T.kc, .slice T.sa T.sl T.sc, .slice T.pa T.pl T.pc] 26)) (.cells #[.int .u64 t, .int .u64 l, .slice a n c] 37)
  rw [show (w.alloc (.cells #[.int .i64 T.k, .int .i64 T.d, .int .i64 T.f, .int .i64 T.dp, .int .u32 T.lf, .int .i64 T.inn, .slice T.ka T.kl T.kc, .slice T.sa T.sl T.sc, .slice T.pa T.pl T.pc] 26)).heap.size = w.heap.size + 1 by simp] at n1
  have n0 := blk_alloc (o' := .cells #[.int .u64 t, .int .u64 l, .slice a n c] 37) n0
  have hb1 := hb0.alloc hb0.size (.cells #[.int .u64 t, .int .u64 l, .slice a n c] 37)
  have N0 := TW.hide n0
  have N1 := TW.hide n1
  have B0 := TW.hide hb1
  clear n0 n1 hb0 hb1
  go_enter Try.func9, Try.ntmps9
  refine wp_seq_k fun K hK => ?_
  have HK := TW.hide hK
  clear hK
  go_wp2_with fail
  refine HK.out _ _ ?_
  clear HK K
  generalize (w.alloc _).alloc _ = X at *
  obtain ⟨c0, c1, c2, c3, c4, c5, c6, c7, c8⟩ := cells9 N0.out
  obtain ⟨d0, d1, d2⟩ := cellsP3 N1.out
  go_wp2_with fail
  refine (HL.out _).mono ?_
  rintro e1 w1 ⟨v, rfl, hf, hb⟩
  have HF : Hid (∀ W2, Below w1.heap.size w1 W2 → _) := hf.out B0.out
  clear hf c0 c1 c2 c3 c4 c5 c6 c7 c8 d0 d1 d2 HL
  have M0 := TW.hide (blk_keep N0.out hb)
  have M1 := TW.hide (blk_keep N1.out hb)
  have HB1 : Hid (Below w.heap.size w w1) := B0.out.trans (hb.mono B0.out.size)
  clear hb N0 N1 B0
  obtain ⟨c0, c1, c2, c3, c4, c5, c6, c7, c8⟩ := cells9 M0.out
  obtain ⟨d0, d1, d2⟩ := cellsP3 M1.out
  go_wp2_with fail
  refine (HF.out _ (Below.refl _ _)).mono ?_
  rintro e2 w2 ⟨rfl, hb⟩
  have HB2 : Hid (Below w.heap.size w w2) := HB1.out.trans (hb.mono HB1.out.size)
  clear hb
  go_wp2
  go_ret2
  exact ⟨rfl, HB2.out⟩
/-- What Pack keeps: its bytes, and the boxes of its arguments. -/
structure PkI (w : World) (T : Tr) (t l : Nat) (a : Option Addr) (n c : Nat) (wr : World) (v : Value) (L : List Int) : Prop where
  own : wr.ownsRow w.heap.size 5 1 v L.length (vs L)
  below : Below w.heap.size w wr
  box0 : wr.heap[w.heap.size]? = some (.cells #[.int .i64 T.k, .int .i64 T.d, .int .i64 T.f, .int .i64 T.dp, .int .u32 T.lf, .int .i64 T.inn, .slice T.ka T.kl T.kc, .slice T.sa T.sl T.sc, .slice T.pa T.pl T.pc] 26 (0, 0))
  box1 : wr.heap[w.heap.size + 1]? = some (.cells #[.int .u64 t, .int .u64 l, .slice a n c] 37 (0, 0))
theorem PkI.app {w : World} {T : Tr} {t l : Nat} {a : Option Addr} {n c : Nat} {wr w5 : World} {v v' : Value} {L zs : List Int} {m : Nat} (h : PkI w T t l a n c wr v L) (hm : zs.length = m) (ho : w5.ownsRow w.heap.size 5 1 v' (L.length + m) (vs L ++ vs zs)) (hg : wr.grownBy w5 v.ownBlock) : PkI w T t l a n c w5 v' (L ++ zs) := by
  refine ⟨?_, h.below.grown hg (by have := h.below.size; omega) (fun k hk => ow_block h.own k hk), ?_, ?_⟩
  · rw [vs_append, List.length_append, hm]; exact ho
  · exact ow_grown h.box0 hg (Ne.symm (row_ne h.box0 (by decide) h.own))
  · exact ow_grown h.box1 hg (Ne.symm (row_ne h.box1 (by decide) h.own))
theorem PkI.keep {w : World} {T : Tr} {t l : Nat} {a : Option Addr} {n c : Nat} {wr w5 : World} {v : Value} {L : List Int} (h : PkI w T t l a n c wr v L) (hb : Below wr.heap.size wr w5) : PkI w T t l a n c w5 v L :=
  ⟨ow_below h.own hb, h.below.trans (hb.mono h.below.size), blk_keep h.box0 hb, blk_keep h.box1 hb⟩
set_option maxRecDepth 100000 in
set_option maxHeartbeats 4000000 in
theorem rpackOk (T : Tr) (t l : Nat) (a : Option Addr) (n c m : Nat) (ss : List Stp) (w : World) (ht : t < 18446744073709551616) (hl : l < 18446744073709551616) (hS : Sts w a ss) (hn : ss.length = n) (hn2 : n ≤ 1048576) (hm : 1 ≤ m) (hm2 : m ≤ 64) (hF : (flA ss).length ≤ 1048576) (hA : ∀ i, i < n → (∀ r, r < (ss.getD i ([], [])).1.length → ((ss.getD i ([], [])).1.getD r []).length = m) ∧ (∀ r, r < (ss.getD i ([], [])).2.length → ((ss.getD i ([], [])).2.getD r []).length = m) ∧ (ss.getD i ([], [])).1.length ≤ 1048576 ∧ (ss.getD i ([], [])).2.length ≤ 1048576)
    (H : ∀ W, Calls Try.prog 16 #[.agg (trC T), .int .u64 t, .int .u64 l] W fun e w' => ∃ v, e = .returned (.tuple #[v, .int .i64 0]) ∧ Hid (Below w.heap.size w W → ∀ W2, Below w'.heap.size w' W2 → Calls Try.prog 21 #[.agg (trC T), .agg (paC t l a n c), v] W2 fun e w' => e = .returned (.bool true) ∧ Below W2.heap.size W2 w') ∧ Below W.heap.size W w') : Calls Try.prog 9 #[.agg (trC T), .agg (paC t l a n c)] w fun e w' => ∃ v, e = .returned (.tuple #[v, .int .i64 0]) ∧ w'.ownsRow w.heap.size 5 1 v (un t 8 ++ un l 8 ++ flA ss).length (vs (un t 8 ++ un l 8 ++ flA ss)) ∧ Below w.heap.size w w' := by
  have HL := TW.hide H
  clear H
  have HSt : Hid (∀ (W : World) (i : Nat), Below w.heap.size w W → i < n → ∃ b off A K A' K', a = some ⟨b, off, none⟩ ∧ W.cell? ⟨b, off + i * 2, none⟩ = some (.slice A (ss.getD i ([], [])).1.length K) ∧ W.cell? ⟨b, off + i * 2 + 1, none⟩ = some (.slice A' (ss.getD i ([], [])).2.length K') ∧ Ls W A (ss.getD i ([], [])).1 ∧ Ls W A' (ss.getD i ([], [])).2) := by
    intro W i hb hi
    rcases hS.below hb with h | ⟨b, off, e, hc⟩
    · rw [h] at hn; simp at hn; omega
    · obtain ⟨A, K, A', K', h1, h2, h3, h4⟩ := hc i (by omega)
      exact ⟨b, off, A, K, A', K', e, h1, h2, h3, h4⟩
  have HA := TW.hide hA
  have HF := TW.hide hF
  have HN := TW.hide hn
  have HM1 := TW.hide hm
  have HST := TW.hide (fun W => rstore (t : Int) 8 W (by omega) (by omega) (by omega))
  have HSL := TW.hide (fun W => rstore (l : Int) 8 W (by omega) (by omega) (by omega))
  have hu1 : (un (t : Int) 8).length = 8 := un_length _ _
  have hu2 : (un (l : Int) 8).length = 8 := un_length _ _
  generalize un (t : Int) 8 = ut at *
  generalize un (l : Int) 8 = ul at *
  have HU1 := TW.hide hu1
  have HU2 := TW.hide hu2
  obtain ⟨i5, hi5, hz50, hz51, hz52⟩ := info_parts info5
  clear hA hF hn hS hm hu1 hu2
  unfold trC paC at *
  have n0 := heap_alloc_new w (.cells #[.int .i64 T.k, .int .i64 T.d, .int .i64 T.f, .int .i64 T.dp, .int .u32 T.lf, .int .i64 T.inn, .slice T.ka T.kl T.kc, .slice T.sa T.sl T.sc, .slice T.pa T.pl T.pc] 26)
  have hb0 := (Below.refl w.heap.size w).alloc (Nat.le_refl _) (.cells #[.int .i64 T.k, .int .i64 T.d, .int .i64 T.f, .int .i64 T.dp, .int .u32 T.lf, .int .i64 T.inn, .slice T.ka T.kl T.kc, .slice T.sa T.sl T.sc, .slice T.pa T.pl T.pc] 26)
  have n1 := heap_alloc_new (w.alloc (.cells #[.int .i64 T.k, .int .i64 T.d, .int .i64 T.f, .int .i64 T.dp, .int .u32 T.lf, .int .i64 T.inn, .slice T.ka T.kl T.kc, .slice T.sa T.sl T.sc, .slice T.pa T.pl T.pc] 26)) (.cells #[.int .u64 t, .int .u64 l, .slice a n c] 37)
  rw [show (w.alloc (.cells #[.int .i64 T.k, .int .i64 T.d, .int .i64 T.f, .int .i64 T.dp, .int .u32 T.lf, .int .i64 T.inn, .slice T.ka T.kl T.kc, .slice T.sa T.sl T.sc, .slice T.pa T.pl T.pc] 26)).heap.size = w.heap.size + 1 by simp] at n1
  have n0 := blk_alloc (o' := .cells #[.int .u64 t, .int .u64 l, .slice a n c] 37) n0
  have hb1 := hb0.alloc hb0.size (.cells #[.int .u64 t, .int .u64 l, .slice a n c] 37)
  have N0 := TW.hide n0
  have N1 := TW.hide n1
  have B0 := TW.hide hb1
  clear n0 n1 hb0 hb1
  go_enter Try.func9, Try.ntmps9
  refine wp_seq_k fun K hK => ?_
  have HK := TW.hide hK
  clear hK
  go_wp2_with fail
  refine HK.out _ _ ?_
  clear HK K
  generalize (w.alloc _).alloc _ = X at *
  obtain ⟨c0, c1, c2, c3, c4, c5, c6, c7, c8⟩ := cells9 N0.out
  obtain ⟨d0, d1, d2⟩ := cellsP3 N1.out
  refine wp_seq_k fun K hK => ?_
  have HK := TW.hide hK
  clear hK
  go_wp2_with fail
  refine (HL.out _).mono ?_
  rintro e1 w1 ⟨v, rfl, hf, hb⟩
  have HFt : Hid (∀ W2, Below w1.heap.size w1 W2 → _) := hf.out B0.out
  clear hf c0 c1 c2 c3 c4 c5 c6 c7 c8 d0 d1 d2 HL
  have M0 := TW.hide (blk_keep N0.out hb)
  have M1 := TW.hide (blk_keep N1.out hb)
  have MB : Hid (Below w.heap.size w w1) := B0.out.trans (hb.mono B0.out.size)
  clear hb N0 N1 B0
  go_wp2
  refine HK.out _ _ ?_
  clear HK K
  obtain ⟨c0, c1, c2, c3, c4, c5, c6, c7, c8⟩ := cells9 M0.out
  obtain ⟨d0, d1, d2⟩ := cellsP3 M1.out
  go_wp2_with fail
  refine (HFt.out _ (Below.refl _ _)).mono ?_
  rintro e2 w2 ⟨rfl, hb⟩
  clear c0 c1 c2 c3 c4 c5 c6 c7 c8 d0 d1 d2 HFt
  have N0 := TW.hide (blk_keep M0.out hb)
  have N1 := TW.hide (blk_keep M1.out hb)
  have NB : Hid (Below w.heap.size w w2) := MB.out.trans (hb.mono MB.out.size)
  clear hb M0 M1 MB
  obtain ⟨d0, d1, d2⟩ := cellsP3 N1.out
  go_wp2_with fail
  refine (HST.out _).mono ?_
  rintro e3 w3 ⟨x3, rfl, ho3, hb⟩
  clear d0 d1 d2 HST
  have M0 := TW.hide (blk_keep N0.out hb)
  have M1 := TW.hide (blk_keep N1.out hb)
  have MB : Hid (Below w.heap.size w w3) := NB.out.trans (hb.mono NB.out.size)
  have O3 := TW.hide (ow_base ho3 NB.out.size)
  clear hb N0 N1 NB ho3
  obtain ⟨d0, d1, d2⟩ := cellsP3 M1.out
  go_wp2_with fail
  refine (HSL.out _).mono ?_
  rintro e4 w4 ⟨x4, rfl, ho4, hb⟩
  clear d0 d1 d2 HSL
  have I4 : Hid (PkI w T t l a n c w4 x3 ut) := ⟨by rw [HU1.out]; exact ow_below O3.out hb, MB.out.trans (hb.mono MB.out.size), blk_keep M0.out hb, blk_keep M1.out hb⟩
  obtain ⟨g4, k4, rfl⟩ := ownsRow_succ ho4
  have R4 : Hid (Row w4 (some ⟨g4, 0, none⟩) ul) := by
    obtain ⟨a4, k4', e, h, _⟩ := row_of_own (zs := ul) (by rw [HU2.out]; exact ho4)
    injection e with e1
    rw [e1]
    exact h
  clear hb M0 M1 MB O3 ho4
  go_wp2_with (at_builtin; refine wpList_append_own _ rfl _ _ 24 rfl w.heap.size 5 i5 (.int .u8 0) 1 1 Try.underlying24 hi5 hz50 hz51 hz52 rfl (by decide) _ ut.length (vs ut) rfl I4.out.own ⟨g4, 0, none⟩ 8 k4 (vs ul) rfl (by rw [vs_length, HU2.out]) (rowCs R4.out) (onesV ul) (by rw [HU1.out]; unfold maxLen; omega) (by rw [HU1.out]; omega) I4.out.below.size ?_; intro v' w5 hown' hgrow _; have I5 := TW.hide (I4.out.app HU2.out hown' hgrow); clear hown' hgrow)
  clear I4 R4
  have HP0 : Hid ((ut ++ ul).length = 16) := by show _ = _; rw [List.length_append, HU1.out, HU2.out]
  obtain ⟨P, hP⟩ : ∃ P, ut ++ ul = P := ⟨_, rfl⟩
  have HPE := TW.hide hP
  rw [hP] at I5 HP0
  clear hP
  go_wp2
  go_loopw [8, 9, 10, 11] (fun v i k k2 wr => ∃ i' : Nat, i' ≤ n ∧ i = .int .i64 i' ∧ PkI w T t l a n c wr v (P ++ flA (ss.take i'))) (fun v i k k2 wr => n - (intOf i).toNat)
  case atStart => exact ⟨0, Nat.zero_le _, rfl, by simpa [flA] using I5.out⟩
  case round =>
    obtain ⟨i, hi, rfl, hpk⟩ := hrel
    have HI := TW.hide hpk
    clear hpk I5
    by_cases hlt : i < n
    · have hiI : (i : Int) < (n : Int) := by omega
      have hi0 : (0 : Int) ≤ (i : Int) := by omega
      have HLT := TW.hide hlt
      obtain ⟨b, off, A, KA, A', KA', rfl, s1, s2, l1, l2⟩ := HSt.out w i (Below.refl _ _) hlt
      obtain ⟨a1, a2, a3, a4⟩ := HA.out i hlt
      have HSNi := TW.hide (flA_snoc ss i (by rw [HN.out]; exact hlt))
      have hfle := flA_le ss (i + 1)
      rw [HSNi.out, List.length_append, flS, List.length_append] at hfle
      have hfsd : flS (ss.getD i ([], [])) = (ss.getD i ([], [])).1.flatten ++ (ss.getD i ([], [])).2.flatten := rfl
      rw [hfsd] at HSNi
      clear hfsd
      generalize (ss.getD i ([], [])).1 = bs at *
      generalize (ss.getD i ([], [])).2 = fs at *
      have HST1 : Hid (∀ W, Below w.heap.size w W → W.cell? ⟨b, off + i * 2, none⟩ = some (.slice A bs.length KA) ∧ W.cell? ⟨b, off + i * 2 + 1, none⟩ = some (.slice A' fs.length KA')) := fun W hW => ⟨by rw [hW.cell (lt_of_cell s1)]; exact s1, by rw [hW.cell (lt_of_cell s2)]; exact s2⟩
      have HLs1 : Hid (∀ W, Below w.heap.size w W → Ls W A bs) := fun W hW => l1.below hW
      have HLs2 : Hid (∀ W, Below w.heap.size w W → Ls W A' fs) := fun W hW => l2.below hW
      have HAI1 := TW.hide a1
      have HAI2 := TW.hide a2
      obtain ⟨L0, hL0⟩ : ∃ L0, P ++ flA (ss.take i) = L0 := ⟨_, rfl⟩
      have HL0 := TW.hide hL0
      have HLE : Hid (L0.length + bs.flatten.length + fs.flatten.length ≤ 2097152) := by
        show _ ≤ _
        rw [← hL0, List.length_append, HP0.out]
        have := HF.out
        omega
      rw [hL0] at HI
      clear s1 s2 l1 l2 a1 a2 hL0 hfle hlt HSt HA
      obtain ⟨nb, hnb⟩ : ∃ nb, bs.length = nb := ⟨_, rfl⟩
      obtain ⟨nf, hnf⟩ : ∃ nf, fs.length = nf := ⟨_, rfl⟩
      have HNB := TW.hide hnb
      have HNF := TW.hide hnf
      rw [hnb] at a3
      rw [hnf] at a4
      rw [hnb, hnf] at HST1
      clear hnb hnf
      obtain ⟨d0, d1, d2⟩ := cellsP3 HI.out.box1
      obtain ⟨st1, st2⟩ := HST1.out wr HI.out.below
      go_wp2
      clear d0 d1 d2 st1 st2
      go_loopw [8, 10] (fun v k wr => ∃ r : Nat, r ≤ nb ∧ k = .int .i64 r ∧ PkI w T t l (some ⟨b, off, none⟩) n c wr v (L0 ++ (bs.take r).flatten)) (fun v k wr => nb - (intOf k).toNat)
      case atStart => exact ⟨0, Nat.zero_le _, rfl, by simpa using HI.out⟩
      case round =>
        obtain ⟨r, hr, rfl, hi⟩ := hrel
        have HP := TW.hide hi
        clear hi HI
        obtain ⟨d0, d1, d2⟩ := cellsP3 HP.out.box1
        obtain ⟨st1, st2⟩ := HST1.out wr HP.out.below
        by_cases hrl : r < nb
        · have hrI : (r : Int) < (nb : Int) := by omega
          have hr0 : (0 : Int) ≤ (r : Int) := by omega
          obtain ⟨bb, ob, rfl, Ar, Kr, hcr, hrr⟩ : ∃ bb ob, A = some ⟨bb, ob, none⟩ ∧ ∃ Ar Kr, wr.cell? ⟨bb, ob + r, none⟩ = some (.slice Ar (bs.getD r []).length Kr) ∧ Row wr Ar (bs.getD r []) := by
            rcases HLs1.out wr HP.out.below with h | ⟨bb, ob, e, hc⟩
            · exfalso; have := HNB.out; rw [h] at this; simp at this; omega
            · obtain ⟨Ar, Kr, h1, h2⟩ := hc r (by rw [HNB.out]; exact hrl)
              exact ⟨bb, ob, e, Ar, Kr, h1, h2⟩
          have hlr := HAI1.out r (by rw [HNB.out]; exact hrl)
          have HSN := TW.hide (flat_snoc bs r (by rw [HNB.out]; exact hrl))
          have hle := flat_le bs (r + 1)
          rw [HSN.out, List.length_append] at hle
          obtain ⟨zs, hzs⟩ : ∃ zs, bs.getD r [] = zs := ⟨_, rfl⟩
          rw [hzs] at hcr hlr hrr HSN hle
          clear hzs
          obtain ⟨b3, o3, rfl, hrr⟩ : ∃ b3 o3, Ar = some ⟨b3, o3, none⟩ ∧ Row wr (some ⟨b3, o3, none⟩) zs := by
            rcases hrr with h | ⟨b3, o3, e, hc⟩
            · rw [h] at hlr; simp at hlr; have := HM1.out; omega
            · exact ⟨b3, o3, e, .inr ⟨b3, o3, rfl, hc⟩⟩
          have HRR := TW.hide hrr
          have HLR := TW.hide hlr
          have HTL : Hid ((L0 ++ (bs.take r).flatten).length + m ≤ 4194304) := by
            show _ ≤ _
            simp only [List.length_append]
            have := HLE.out
            omega
          rw [hlr] at hcr
          clear hrr hlr hle
          obtain ⟨L, hL⟩ : ∃ L, L0 ++ (bs.take r).flatten = L := ⟨_, rfl⟩
          have HLL := TW.hide hL
          rw [hL] at HP HTL
          clear hL
          go_wp2_with (at_builtin; refine wpList_append_own _ rfl _ _ 24 rfl w.heap.size 5 i5 (.int .u8 0) 1 1 Try.underlying24 hi5 hz50 hz51 hz52 rfl (by decide) _ L.length (vs L) rfl HP.out.own ⟨b3, o3, none⟩ m Kr (vs zs) rfl (by rw [vs_length, HLR.out, Nat.mul_one]) (rowCs HRR.out) (onesV zs) (by have := HTL.out; unfold maxLen; omega) (by have := HTL.out; omega) HP.out.below.size ?_; intro v' w5 hown' hgrow _; have HO5 := TW.hide (HP.out.app HLR.out hown' hgrow); clear hown' hgrow)
          go_wp2
          go_roundw
          case rel =>
            refine ⟨r + 1, by omega, by go_num, ?_⟩
            rw [HSN.out, ← List.append_assoc, HLL.out]
            exact HO5.out
          case measure => simp [intOf]; omega
        · obtain rfl : r = nb := by omega
          have HI : Hid (PkI w T t l (some ⟨b, off, none⟩) n c wr u8 (L0 ++ bs.flatten)) := by
            have h := HP.out
            rw [List.take_of_length_le (by rw [HNB.out]; exact Nat.le_refl _)] at h
            exact h
          clear HP
          go_wp2
          go_loopw [8, 11] (fun v k wr => ∃ r : Nat, r ≤ nf ∧ k = .int .i64 r ∧ PkI w T t l (some ⟨b, off, none⟩) n c wr v ((L0 ++ bs.flatten) ++ (fs.take r).flatten)) (fun v k wr => nf - (intOf k).toNat)
          case atStart => exact ⟨0, Nat.zero_le _, rfl, by simpa using HI.out⟩
          case round =>
            obtain ⟨r, hr, rfl, hi⟩ := hrel
            have HP := TW.hide hi
            clear hi HI
            obtain ⟨d0, d1, d2⟩ := cellsP3 HP.out.box1
            obtain ⟨st1, st2⟩ := HST1.out wr HP.out.below
            by_cases hrl : r < nf
            · have hrI : (r : Int) < (nf : Int) := by omega
              have hr0 : (0 : Int) ≤ (r : Int) := by omega
              obtain ⟨bb, ob, rfl, Ar, Kr, hcr, hrr⟩ : ∃ bb ob, A' = some ⟨bb, ob, none⟩ ∧ ∃ Ar Kr, wr.cell? ⟨bb, ob + r, none⟩ = some (.slice Ar (fs.getD r []).length Kr) ∧ Row wr Ar (fs.getD r []) := by
                rcases HLs2.out wr HP.out.below with h | ⟨bb, ob, e, hc⟩
                · exfalso; have := HNF.out; rw [h] at this; simp at this; omega
                · obtain ⟨Ar, Kr, h1, h2⟩ := hc r (by rw [HNF.out]; exact hrl)
                  exact ⟨bb, ob, e, Ar, Kr, h1, h2⟩
              have hlr := HAI2.out r (by rw [HNF.out]; exact hrl)
              have HSN := TW.hide (flat_snoc fs r (by rw [HNF.out]; exact hrl))
              have hle := flat_le fs (r + 1)
              rw [HSN.out, List.length_append] at hle
              obtain ⟨zs, hzs⟩ : ∃ zs, fs.getD r [] = zs := ⟨_, rfl⟩
              rw [hzs] at hcr hlr hrr HSN hle
              clear hzs
              obtain ⟨b3, o3, rfl, hrr⟩ : ∃ b3 o3, Ar = some ⟨b3, o3, none⟩ ∧ Row wr (some ⟨b3, o3, none⟩) zs := by
                rcases hrr with h | ⟨b3, o3, e, hc⟩
                · rw [h] at hlr; simp at hlr; have := HM1.out; omega
                · exact ⟨b3, o3, e, .inr ⟨b3, o3, rfl, hc⟩⟩
              have HRR := TW.hide hrr
              have HLR := TW.hide hlr
              have HTL : Hid (((L0 ++ bs.flatten) ++ (fs.take r).flatten).length + m ≤ 4194304) := by
                show _ ≤ _
                simp only [List.length_append]
                have := HLE.out
                omega
              rw [hlr] at hcr
              clear hrr hlr hle
              obtain ⟨L, hL⟩ : ∃ L, (L0 ++ bs.flatten) ++ (fs.take r).flatten = L := ⟨_, rfl⟩
              have HLL := TW.hide hL
              rw [hL] at HP HTL
              clear hL
              go_wp2_with (at_builtin; refine wpList_append_own _ rfl _ _ 24 rfl w.heap.size 5 i5 (.int .u8 0) 1 1 Try.underlying24 hi5 hz50 hz51 hz52 rfl (by decide) _ L.length (vs L) rfl HP.out.own ⟨b3, o3, none⟩ m Kr (vs zs) rfl (by rw [vs_length, HLR.out, Nat.mul_one]) (rowCs HRR.out) (onesV zs) (by have := HTL.out; unfold maxLen; omega) (by have := HTL.out; omega) HP.out.below.size ?_; intro v' w5 hown' hgrow _; have HO5 := TW.hide (HP.out.app HLR.out hown' hgrow); clear hown' hgrow)
              go_wp2
              go_roundw
              case rel =>
                refine ⟨r + 1, by omega, by go_num, ?_⟩
                rw [HSN.out, ← List.append_assoc, HLL.out]
                exact HO5.out
              case measure => simp [intOf]; omega
            · obtain rfl : r = nf := by omega
              have HE : Hid (PkI w T t l (some ⟨b, off, none⟩) n c wr u8 (P ++ flA (ss.take (i + 1)))) := by
                have h := HP.out
                rw [List.take_of_length_le (by rw [HNF.out]; exact Nat.le_refl _)] at h
                show PkI _ _ _ _ _ _ _ _ _ _
                rw [HSNi.out, ← List.append_assoc, HL0.out, ← List.append_assoc]
                exact h
              clear HP
              go_wp2
              exact ⟨⟨i + 1, HLT.out, by go_num, HE.out⟩, by simp [intOf]; have := HLT.out; omega⟩
    · obtain rfl : i = n := by omega
      obtain ⟨d0, d1, d2⟩ := cellsP3 HI.out.box1
      go_wp2
      go_ret2
      refine ⟨u8, rfl, ?_, HI.out.below⟩
      have h := HI.out.own
      rw [List.take_of_length_le (by rw [HN.out]; exact Nat.le_refl _)] at h
      rw [HPE.out]
      exact h
end LW
end Go.Proofs.Ytcpegipojkbcoaa
