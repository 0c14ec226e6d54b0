/-
  What Nodes gives, the program's.
-/
import Derived.Test.YtfcbhbpillbapaaSh6
namespace Go.Proofs.Ytfcbhbpillbapaa
open Go.RowKit Go.Shelf
attribute [local go_sem] Oper.semAt_some
set_option linter.unusedVariables false
set_option linter.unusedSimpArgs false
namespace LW
open Words
/-- A sum of numbers, as a word tells it. -/
def sm (l : List Nat) : Nat := l.foldl (fun a x => (a + x) % 18446744073709551616) 0
theorem sm_snoc (l : List Nat) (x : Nat) : IntKind.u64.wrap ((sm l : Nat) + (x : Int)) = ((sm (l ++ [x]) : Nat) : Int) := by
  rw [IntKind.wrap_u64]
  unfold sm
  rw [List.foldl_append]
  simp only [List.foldl_cons, List.foldl_nil]
  omega
set_option maxRecDepth 100000 in
set_option maxHeartbeats 2000000 in
theorem nodesE (T : Tr) (hT : 0 ≤ T.lf ∧ T.lf < 4294967296) (n : Nat) (hn : n < 18446744073709551616) (hE : lvE T n ≠ 0) (w : World) : Calls Try.prog 16 #[.agg (trC T), .int .u64 n] w fun e w' => e = .returned (.tuple #[.int .u64 0, .int .i64 (lvE T n)]) ∧ Below w.heap.size w w' := by
  have HL := TW.hide (fun W => lay T hT n hn W)
  unfold lyR at HL
  rw [if_neg hE, ly0] at HL
  generalize lvE T n = v at *
  unfold trC at HL ⊢
  have n0 := heap_alloc_new w (.cells #[.int .i64 T.k, .int .i64 T.d, .int .i64 T.f, .int .i64 T.dp, .int .u32 T.lf, .int .i64 T.inn, .slice T.ka T.kl T.kc, .slice T.sa T.sl T.sc, .slice T.pa T.pl T.pc] 26)
  have hb := (Below.refl w.heap.size w).alloc (Nat.le_refl _) (.cells #[.int .i64 T.k, .int .i64 T.d, .int .i64 T.f, .int .i64 T.dp, .int .u32 T.lf, .int .i64 T.inn, .slice T.ka T.kl T.kc, .slice T.sa T.sl T.sc, .slice T.pa T.pl T.pc] 26)
  obtain ⟨c0, c1, c2, c3, c4, c5, c6, c7, c8⟩ := cells9 n0
  have HB := TW.hide hb
  clear n0 hb
  go_enter Try.func16, Try.ntmps16
  refine wp_seq_k fun K hK => ?_
  have HK := TW.hide hK
  clear hK
  go_wp2_with fail
  refine HK.out _ _ ?_
  clear HK
  generalize w.alloc _ = X at *
  go_wp2_with fail
  refine (HL.out _).mono ?_
  rintro e1 w1 ⟨rfl, hb1⟩
  have b1 : Below w.heap.size w w1 := HB.out.trans (hb1.mono HB.out.size)
  have HB1 := TW.hide b1
  clear b1 hb1 HB HL
  go_wp2
  go_ret2
  exact ⟨rfl, HB1.out.alloc HB1.out.size _⟩
set_option maxRecDepth 100000 in
set_option maxHeartbeats 2000000 in
theorem nodesOk (T : Tr) (hT : 0 ≤ T.lf ∧ T.lf < 4294967296) (n : Nat) (hn : n < 18446744073709551616) (hE : lvE T n = 0) (w : World) : Calls Try.prog 16 #[.agg (trC T), .int .u64 n] w fun e w' => e = .returned (.tuple #[.int .u64 (sm (roL T n) : Nat), .int .i64 0]) ∧ Below w.heap.size w w' := by
  have hv := vd_ok (lvE_ok hE)
  have HL := TW.hide (fun W => lay T hT n hn W)
  unfold lyR at HL
  rw [if_pos hE] at HL
  have hm := lv_lt T n (by omega) hn
  unfold roL
  generalize lv T n = m at *
  have HR := TW.hide (fun W => rows_ T n m W)
  unfold trC lyC at HL
  unfold trC
  have n0 := heap_alloc_new w (.cells #[.int .i64 T.k, .int .i64 T.d, .int .i64 T.f, .int .i64 T.dp, .int .u32 T.lf, .int .i64 T.inn, .slice T.ka T.kl T.kc, .slice T.sa T.sl T.sc, .slice T.pa T.pl T.pc] 26)
  have hb := (Below.refl w.heap.size w).alloc (Nat.le_refl _) (.cells #[.int .i64 T.k, .int .i64 T.d, .int .i64 T.f, .int .i64 T.dp, .int .u32 T.lf, .int .i64 T.inn, .slice T.ka T.kl T.kc, .slice T.sa T.sl T.sc, .slice T.pa T.pl T.pc] 26)
  obtain ⟨c0, c1, c2, c3, c4, c5, c6, c7, c8⟩ := cells9 n0
  have HB := TW.hide hb
  clear n0 hb
  refine (callsIn_wide (n := 8)).1 ?_
  refine callsIn_of_wp_marks Try.func16 rfl trivial ?_ rfl
  simp only [Try.ntmps16, List.size_toArray, List.length_cons, List.length_nil, Nat.reduceAdd, Nat.reduceSub, Array.replicate_succ, Array.replicate_zero, List.push_toArray, List.append_toArray, List.nil_append, List.cons_append]
  refine wpIn_wide.2 ?_
  refine wp_seq_k fun K hK => ?_
  have HK := TW.hide hK
  clear hK
  go_wp2_with fail
  refine HK.out _ _ ?_
  clear HK
  generalize w.alloc _ = X at *
  refine wp_seq_k fun K hK => ?_
  have HK := TW.hide hK
  clear hK
  go_wp2_with fail
  refine (HL.out _).mono ?_
  rintro e1 w1 ⟨rfl, hb1⟩
  have b1 : Below w.heap.size w w1 := HB.out.trans (hb1.mono HB.out.size)
  have HB1 := TW.hide b1
  clear b1 hb1 HB HL c0 c1 c2 c3 c4 c5 c6 c7 c8
  go_wp2
  refine HK.out _ _ ?_
  clear HK
  have n2 := heap_alloc_new w1 (.cells #[.int .i64 T.k, .int .i64 T.d, .int .i64 T.f, .int .i64 T.dp, .int .u32 T.lf, .int .i64 T.inn, .slice T.ka T.kl T.kc, .slice T.sa T.sl T.sc, .slice T.pa T.pl T.pc, .int .u64 n, .int .u64 m] 71)
  have b2 := HB1.out.alloc HB1.out.size (.cells #[.int .i64 T.k, .int .i64 T.d, .int .i64 T.f, .int .i64 T.dp, .int .u32 T.lf, .int .i64 T.inn, .slice T.ka T.kl T.kc, .slice T.sa T.sl T.sc, .slice T.pa T.pl T.pc, .int .u64 n, .int .u64 m] 71)
  clear HB1
  have hg1 := blk_lt n2
  generalize w1.alloc _ = Y at *
  generalize w1.heap.size = g1 at *
  refine wp_seq_k fun K hK => ?_
  have HK := TW.hide hK
  clear hK
  go_wp2
  refine HK.out _ _ ?_
  clear HK K
  refine wp_seq_k fun K hK => ?_
  have HK := TW.hide hK
  clear hK
  go_wp2
  refine HK.out _ _ ?_
  clear HK K
  have n3 := blk_alloc (o' := .cells #[.int .u64 0] 32) n2
  have b3 := b2.alloc b2.size (.cells #[.int .u64 0] 32)
  have m3 := Boxed.new Y 32 (.int .u64 0)
  have hg2 := b2.size
  generalize hZ : Y.alloc (.cells #[.int .u64 0] 32) = Z at *
  have hg3 : Y.heap.size < Z.heap.size := m3.lt
  obtain ⟨c0, c1, c2, c3, c4, c5, c6, c7, c8, c9, c10, _⟩ := cells11 n3
  have HN := TW.hide n3
  have HB := TW.hide b3
  have HM := TW.hide m3
  clear n2 n3 b2 b3 m3
  unfold lyC at HR
  go_wp2_with fail
  generalize hY : Y.heap.size = y at *
  refine (HR.out _).mono ?_
  rintro e2 w2 ⟨rfl, rfl⟩
  clear HR c0 c1 c2 c3 c4 c5 c6 c7 c8 c9 c10
  go_wp2
  have n4 := heap_alloc_new Z (.cells (lyC T n m) 71)
  have b4 := HB.out.alloc HB.out.size (.cells (lyC T n m) 71)
  have m4 := HM.out.alloc (.cells (lyC T n m) 71)
  have s4 : (Z.alloc (.cells (lyC T n m) 71)).heap.size = Z.heap.size + 1 := by simp
  unfold lyC at n4 b4 m4 s4
  generalize Z.alloc _ = V at *
  generalize hz : Z.heap.size = z at *
  refine (wpIn_wide (n := 8)).1 ?_
  refine wpIn_rangeFunc_ownF rfl (by omega) (gf := 44) (lb := #[.pointer (some ⟨z, 0, none⟩)]) rfl trivial (enters_of Try.func44 (by kernel_rfl) rfl)
    (rows_stops T n m 7 z (by omega) hv.2.1 ⟨hv.2.2.1, hv.2.2.2.1⟩ hm V n4) (fun h1 h2 => h2.trans h1) (fun W l o o' hl h1 h2 h3 => World.putObj_heap_other (by omega)) (Below.refl _ _) (fun _ => rfl)
    (fun (pre : List (Nat × Nat)) W => Boxed W y 32 (.int .u64 (sm (pre.map Prod.snd) : Nat)) ∧ W.heap[z]? = some (.cells (lyC T n m) 71 (0, 0)) ∧ Below w.heap.size w W)
    (fun _ _ _ => False)
    (OwnFrom.and (fun s A B row hs hg hr => Boxed.kept hs hg (fun e => by obtain ⟨_, o, ho, hc⟩ := hr y e.symm; rw [show A.heap[y]? = _ from hs] at ho; cases ho; cases hc)) (OwnFrom.and (fun s A B row hs hg hr => (hg.block z (blk_lt hs) (fun e => by obtain ⟨_, o, ho, hc⟩ := hr z e.symm; rw [hs] at ho; cases ho; cases hc)).trans hs) (ownFrom_below (Nat.le_refl _) (by omega))))
    (fun _ _ _ _ _ hs _ _ => hs)
    ⟨m4, n4, b4⟩
    (fun x => { tmps := #[.agg #[.int .i64 T.k, .int .i64 T.d, .int .i64 T.f, .int .i64 T.dp, .int .u32 T.lf, .int .i64 T.inn, .slice T.ka T.kl T.kc, .slice T.sa T.sl T.sc, .slice T.pa T.pl T.pc], .int .u64 n, .pointer (some ⟨w.heap.size, 0, none⟩), undef, .int .u64 0, .int .i64 0, .pointer (some ⟨g1, 0, none⟩), .int .i64 0, .pointer (some ⟨y, 0, none⟩), undef, .int .u64 x.2, .tuple #[.agg #[.int .i64 T.k, .int .i64 T.d, .int .i64 T.f, .int .i64 T.dp, .int .u32 T.lf, .int .i64 T.inn, .slice T.ka T.kl T.kc, .slice T.sa T.sl T.sc, .slice T.pa T.pl T.pc, .int .u64 n, .int .u64 m], .int .i64 0], .agg #[.int .i64 T.k, .int .i64 T.d, .int .i64 T.f, .int .i64 T.dp, .int .u32 T.lf, .int .i64 T.inn, .slice T.ka T.kl T.kc, .slice T.sa T.sl T.sc, .slice T.pa T.pl T.pc], .int .u64 n, .tuple #[.agg #[.int .i64 T.k, .int .i64 T.d, .int .i64 T.f, .int .i64 T.dp, .int .u32 T.lf, .int .i64 T.inn, .slice T.ka T.kl T.kc, .slice T.sa T.sl T.sc, .slice T.pa T.pl T.pc, .int .u64 n, .int .u64 m], .int .i64 0], .agg #[.int .i64 T.k, .int .i64 T.d, .int .i64 T.f, .int .i64 T.dp, .int .u32 T.lf, .int .i64 T.inn, .slice T.ka T.kl T.kc, .slice T.sa T.sl T.sc, .slice T.pa T.pl T.pc, .int .u64 n, .int .u64 m], .int .i64 0, .int .i64 0, .bool false, undef, .agg #[.int .i64 T.k, .int .i64 T.d, .int .i64 T.f, .int .i64 T.dp, .int .u32 T.lf, .int .i64 T.inn, .slice T.ka T.kl T.kc, .slice T.sa T.sl T.sc, .slice T.pa T.pl T.pc, .int .u64 n, .int .u64 m], .func (.func 44) #[] #[.pointer (some ⟨z, 0, none⟩)], .int .i64 x.1, .int .u64 x.2, undef, undef, undef, undef], defers := [] }) ?assign ?body ?done ?stop
  case assign =>
    intro l x W K hK
    dsimp only [enc]
    gi_wp2
    exact hK
  case body =>
    rintro l pre x W ⟨hv, hz4, hB⟩ hlt
    have hc := hv.cell
    have hfz := hv.frozen
    gi_wp2
    have e : IntKind.u64.wrap ((sm (pre.map Prod.snd) : Nat) + (x.2 : Int)) = ((sm ((pre ++ [x]).map Prod.snd) : Nat) : Int) := by
      rw [List.map_append, List.map_cons, List.map_nil, sm_snoc]
    rw [e]
    exact ⟨KeepsOthers.setCell _ _ _, Below.heap_setCell _ _ _ z (show z ≠ y by omega), hv.set _, (Below.heap_setCell _ _ _ z (show z ≠ y by omega)).trans hz4, hB.setCell (p := ⟨y, 0, none⟩) (by omega) _⟩
  case done =>
    rintro D ys W hD rfl ⟨hv, hz4, hB⟩ hK
    have hc := hv.cell
    rw [en_snd] at hc
    go_wp2
    go_wp2
    refine ⟨by simp, .inl ⟨_, _, rfl, run_takeDeferred hK, ?_⟩⟩
    exact ⟨_, results_tmp2 rfl _ _ _, rfl, hB.trans (belowK_b (w := w) (Nat.le_refl _) W D _ _ (by omega) hK rfl rfl)⟩
  case stop =>
    rintro D c pre W _ _ h _
    exact h.elim
end LW
end Go.Proofs.Ytfcbhbpillbapaa
