/-
  What Rows and Nodes of the program give.
-/
import Derived.Maps.AppendAt
import Derived.Test.YtahmjdnnkifmnaaSh4
namespace Go.Proofs.Ytahmjdnnkifmnaa
open Go.RowKit Go.Shelf
attribute [local go_sem] Oper.semAt_some
set_option linter.unusedVariables false
set_option linter.unusedSimpArgs false
namespace LW
open Words
/-- Numbers as cells. -/
def us (l : List Nat) : List Value := l.map fun x : Nat => Value.int .u64 (x : Int)
theorem us_snoc (l : List Nat) (x : Nat) : us (l ++ [x]) = us l ++ [.int .u64 (x : Int)] := by simp [us]
theorem us_len (l : List Nat) : (us l).length = l.length := by simp [us]
/-- What Rows hands back. -/
def RoP (T : Tr) (n : Nat) (w : World) (e : Ending) (W' : World) : Prop :=
  ∃ v, e = .returned (.tuple #[v, .int .i64 0]) ∧ W'.ownsRow w.heap.size 27 1 v (roL T n).length (us (roL T n)) ∧ Below w.heap.size w W'
theorem en_snd : ∀ (l : List Nat) (r : Nat), (en r l).map Prod.snd = l
  | [], _ => rfl
  | x :: l, r => by simp [en, en_snd l (r + 1)]
theorem lvE_ok {T : Tr} {n : Nat} (h : lvE T n = 0) : vd T = 0 := by
  unfold lvE at h
  split at h
  · rename_i h1; exact absurd h h1
  · rename_i h1; simpa using h1
theorem u64info : (Try.prog.info? 27).map (fun i => (i.zero, i.size, i.bytes)) = some (some (.int .u64 0), 1, 8) := by kernel_rfl
theorem row_ne {W : World} {z : Nat} {t e : TypeId} {cs : Array Value} (hz : W.heap[z]? = some (.cells cs t (0, 0))) (hte : t ≠ e) {base size k : Nat} {v : Value} {xs : List Value} (hr : W.ownsRow base e size v k xs) : some z ≠ v.ownBlock := by
  rcases hr.2 with ⟨rfl, _⟩ | ⟨g, cap, cur, rfl, _, hgb, _⟩
  · simp [Value.ownBlock]
  · intro e'
    obtain rfl : z = g := by simpa [Value.ownBlock] using e'
    have := hz.symm.trans hgb
    simp at this
    exact hte this.2
theorem app_keep {W w1 : World} {z y : Nat} {t e : TypeId} {cs : Array Value} {tmp : Obj} {base size k : Nat} {v v' : Value} {xs : List Value} (hz : W.heap[z]? = some (.cells cs t (0, 0))) (hte : t ≠ e) (hr : W.ownsRow base e size v k xs) (hgrow : (W.alloc tmp).grownBy w1 v.ownBlock) (hy : z ≠ y) : (w1.setCell ⟨y, 0, none⟩ v').heap[z]? = W.heap[z]? := by
  rw [Below.heap_setCell _ _ _ z hy, hgrow.block z (by have := blk_lt hz; simp; omega) (row_ne hz hte hr)]
  exact Below.heap_alloc _ _ _ (blk_lt hz)
set_option maxRecDepth 100000 in
set_option maxHeartbeats 2000000 in
theorem srowsE (T : Tr) (hT : 0 ≤ T.lf ∧ T.lf < 4294967296) (n : Nat) (hn : n < 18446744073709551616) (hE : lvE T n ≠ 0) (w : World) : Calls Try.prog 14 #[.agg (trC T), .int .u64 n] w fun e w' => e = .returned (.tuple #[.slice none 0 0, .int .i64 (lvE T n)]) ∧ Below w.heap.size w w' := by
  have HL := TW.hide (fun W => lay T hT n hn W)
  unfold lyR at HL
  rw [if_neg hE, ly0] at HL
  generalize lvE T n = v at *
  unfold trC at HL ⊢
  have n0 := heap_alloc_new w (.cells #[.int .i64 T.k, .int .i64 T.d, .int .i64 T.f, .int .i64 T.dp, .int .u32 T.lf, .int .i64 T.inn, .slice T.ka T.kl T.kc, .slice T.sa T.sl T.sc, .slice T.pa T.pl T.pc] 26)
  have hb := (Below.refl w.heap.size w).alloc (Nat.le_refl _) (.cells #[.int .i64 T.k, .int .i64 T.d, .int .i64 T.f, .int .i64 T.dp, .int .u32 T.lf, .int .i64 T.inn, .slice T.ka T.kl T.kc, .slice T.sa T.sl T.sc, .slice T.pa T.pl T.pc] 26)
  obtain ⟨c0, c1, c2, c3, c4, c5, c6, c7, c8⟩ := cells9 n0
  have HB := TW.hide hb
  clear n0 hb
  go_enter Try.func14, Try.ntmps14
  refine wp_seq_k fun K hK => ?_
  have HK := TW.hide hK
  clear hK
  go_wp2_with fail
  refine HK.out _ _ ?_
  clear HK
  generalize w.alloc _ = X at *
  go_wp2_with fail
  refine (HL.out _).mono ?_
  rintro e1 w1 ⟨rfl, hb1⟩
  have b1 : Below w.heap.size w w1 := HB.out.trans (hb1.mono HB.out.size)
  have HB1 := TW.hide b1
  clear b1 hb1 HB HL
  go_wp2
  go_ret2
  exact ⟨rfl, HB1.out.alloc HB1.out.size _⟩
set_option maxRecDepth 100000 in
set_option maxHeartbeats 2000000 in
theorem srowsOk (T : Tr) (hT : 0 ≤ T.lf ∧ T.lf < 4294967296) (n : Nat) (hn : n < 18446744073709551616) (hE : lvE T n = 0) (w : World) : Calls Try.prog 14 #[.agg (trC T), .int .u64 n] w (RoP T n w) := by
  have hv := vd_ok (lvE_ok hE)
  have HL := TW.hide (fun W => lay T hT n hn W)
  unfold lyR at HL
  rw [if_pos hE] at HL
  have hm := lv_lt T n (by omega) hn
  unfold RoP roL
  generalize lv T n = m at *
  have HR := TW.hide (fun W => rows_ T n m W)
  unfold trC lyC at HL
  unfold trC
  have n0 := heap_alloc_new w (.cells #[.int .i64 T.k, .int .i64 T.d, .int .i64 T.f, .int .i64 T.dp, .int .u32 T.lf, .int .i64 T.inn, .slice T.ka T.kl T.kc, .slice T.sa T.sl T.sc, .slice T.pa T.pl T.pc] 26)
  have hb := (Below.refl w.heap.size w).alloc (Nat.le_refl _) (.cells #[.int .i64 T.k, .int .i64 T.d, .int .i64 T.f, .int .i64 T.dp, .int .u32 T.lf, .int .i64 T.inn, .slice T.ka T.kl T.kc, .slice T.sa T.sl T.sc, .slice T.pa T.pl T.pc] 26)
  obtain ⟨c0, c1, c2, c3, c4, c5, c6, c7, c8⟩ := cells9 n0
  have HB := TW.hide hb
  clear n0 hb
  refine (callsIn_wide (n := 8)).1 ?_
  refine callsIn_of_wp_marks Try.func14 rfl trivial ?_ rfl
  simp only [Try.ntmps14, List.size_toArray, List.length_cons, List.length_nil, Nat.reduceAdd, Nat.reduceSub, Array.replicate_succ, Array.replicate_zero, List.push_toArray, List.append_toArray, List.nil_append, List.cons_append]
  refine wpIn_wide.2 ?_
  refine wp_seq_k fun K hK => ?_
  have HK := TW.hide hK
  clear hK
  go_wp2_with fail
  refine HK.out _ _ ?_
  clear HK
  generalize w.alloc _ = X at *
  refine wp_seq_k fun K hK => ?_
  have HK := TW.hide hK
  clear hK
  go_wp2_with fail
  refine (HL.out _).mono ?_
  rintro e1 w1 ⟨rfl, hb1⟩
  have b1 : Below w.heap.size w w1 := HB.out.trans (hb1.mono HB.out.size)
  have HB1 := TW.hide b1
  clear b1 hb1 HB HL c0 c1 c2 c3 c4 c5 c6 c7 c8
  go_wp2
  refine HK.out _ _ ?_
  clear HK
  have n2 := heap_alloc_new w1 (.cells #[.int .i64 T.k, .int .i64 T.d, .int .i64 T.f, .int .i64 T.dp, .int .u32 T.lf, .int .i64 T.inn, .slice T.ka T.kl T.kc, .slice T.sa T.sl T.sc, .slice T.pa T.pl T.pc, .int .u64 n, .int .u64 m] 57)
  have b2 := HB1.out.alloc HB1.out.size (.cells #[.int .i64 T.k, .int .i64 T.d, .int .i64 T.f, .int .i64 T.dp, .int .u32 T.lf, .int .i64 T.inn, .slice T.ka T.kl T.kc, .slice T.sa T.sl T.sc, .slice T.pa T.pl T.pc, .int .u64 n, .int .u64 m] 57)
  clear HB1
  have hg1 := blk_lt n2
  generalize w1.alloc _ = Y at *
  generalize w1.heap.size = g1 at *
  have n3 := blk_alloc (o' := .cells #[.slice none 0 0] 49) n2
  have b3 := b2.alloc b2.size (.cells #[.slice none 0 0] 49)
  have m3 := Boxed.new Y 49 (.slice none 0 0)
  have hg2 := b2.size
  generalize hZ : Y.alloc (.cells #[.slice none 0 0] 49) = Z at *
  have hg3 : Y.heap.size < Z.heap.size := m3.lt
  obtain ⟨c0, c1, c2, c3, c4, c5, c6, c7, c8, c9, c10, _⟩ := cells11 n3
  have HN := TW.hide n3
  have HB := TW.hide b3
  have HM := TW.hide m3
  clear n2 n3 b2 b3 m3
  unfold lyC at HR
  go_wp2_with fail
  generalize hY : Y.heap.size = y at *
  refine (HR.out _).mono ?_
  rintro e2 w2 ⟨rfl, rfl⟩
  clear HR c0 c1 c2 c3 c4 c5 c6 c7 c8 c9 c10
  go_wp2
  have n4 := heap_alloc_new Z (.cells (lyC T n m) 57)
  have b4 := HB.out.alloc HB.out.size (.cells (lyC T n m) 57)
  have m4 := HM.out.alloc (.cells (lyC T n m) 57)
  have s4 : (Z.alloc (.cells (lyC T n m) 57)).heap.size = Z.heap.size + 1 := by simp
  unfold lyC at n4 b4 m4 s4
  generalize Z.alloc _ = V at *
  generalize hz : Z.heap.size = z at *
  obtain ⟨i0, hi, hz0, hz1, hz2⟩ := info_parts u64info
  refine (wpIn_wide (n := 8)).1 ?_
  refine wpIn_rangeFunc_ownF rfl (by omega) (gf := 34) (lb := #[.pointer (some ⟨z, 0, none⟩)]) rfl trivial (enters_of Try.func34 (by kernel_rfl) rfl)
    (rows_stops T n m 7 z (by omega) hv.2.1 ⟨hv.2.2.1, hv.2.2.2.1⟩ hm V n4) (fun h1 h2 => h2.trans h1) (fun W l o o' hl h1 h2 h3 => World.putObj_heap_other (by omega)) (Below.refl _ _) (fun _ => rfl)
    (fun (pre : List (Nat × Nat)) W => (∃ v, Boxed W y 49 v ∧ W.ownsRow w.heap.size 27 1 v pre.length (us (pre.map Prod.snd)) ∧ True) ∧ W.heap[z]? = some (.cells (lyC T n m) 57 (0, 0)) ∧ Below w.heap.size w W)
    (fun _ _ _ => False)
    (OwnFrom.and (Own.from (holdsRow_own w.heap.size y 49 27 1 (fun pre : List (Nat × Nat) => pre.length) (fun pre => us (pre.map Prod.snd)) (fun pre v => True)) _) (OwnFrom.and (fun s A B row hs hg hr => (hg.block z (blk_lt hs) (fun e => by obtain ⟨_, o, ho, hc⟩ := hr z e.symm; rw [hs] at ho; cases ho; cases hc)).trans hs) (ownFrom_below (Nat.le_refl _) (by omega))))
    (fun _ _ _ _ _ hs _ _ => hs)
    ⟨⟨_, m4, World.ownsRow_nil _ _ _ _, trivial⟩, n4, b4⟩
    (fun x => { tmps := #[.agg #[.int .i64 T.k, .int .i64 T.d, .int .i64 T.f, .int .i64 T.dp, .int .u32 T.lf, .int .i64 T.inn, .slice T.ka T.kl T.kc, .slice T.sa T.sl T.sc, .slice T.pa T.pl T.pc], .int .u64 n, .pointer (some ⟨w.heap.size, 0, none⟩), undef, .slice none 0 0, .int .i64 0, .pointer (some ⟨g1, 0, none⟩), .int .i64 0, .pointer (some ⟨y, 0, none⟩), undef, .int .u64 x.2, .tuple #[.agg #[.int .i64 T.k, .int .i64 T.d, .int .i64 T.f, .int .i64 T.dp, .int .u32 T.lf, .int .i64 T.inn, .slice T.ka T.kl T.kc, .slice T.sa T.sl T.sc, .slice T.pa T.pl T.pc, .int .u64 n, .int .u64 m], .int .i64 0], .agg #[.int .i64 T.k, .int .i64 T.d, .int .i64 T.f, .int .i64 T.dp, .int .u32 T.lf, .int .i64 T.inn, .slice T.ka T.kl T.kc, .slice T.sa T.sl T.sc, .slice T.pa T.pl T.pc], .int .u64 n, .tuple #[.agg #[.int .i64 T.k, .int .i64 T.d, .int .i64 T.f, .int .i64 T.dp, .int .u32 T.lf, .int .i64 T.inn, .slice T.ka T.kl T.kc, .slice T.sa T.sl T.sc, .slice T.pa T.pl T.pc, .int .u64 n, .int .u64 m], .int .i64 0], .agg #[.int .i64 T.k, .int .i64 T.d, .int .i64 T.f, .int .i64 T.dp, .int .u32 T.lf, .int .i64 T.inn, .slice T.ka T.kl T.kc, .slice T.sa T.sl T.sc, .slice T.pa T.pl T.pc, .int .u64 n, .int .u64 m], .int .i64 0, .int .i64 0, .bool false, undef, .agg #[.int .i64 T.k, .int .i64 T.d, .int .i64 T.f, .int .i64 T.dp, .int .u32 T.lf, .int .i64 T.inn, .slice T.ka T.kl T.kc, .slice T.sa T.sl T.sc, .slice T.pa T.pl T.pc, .int .u64 n, .int .u64 m], .func (.func 34) #[] #[.pointer (some ⟨z, 0, none⟩)], .int .i64 x.1, .int .u64 x.2, undef, undef, undef, undef, undef], defers := [] }) ?assign ?body ?done ?stop
  case assign =>
    intro l x W K hK
    dsimp only [enc]
    gi_wp2
    exact hK
  case body =>
    rintro l pre x W ⟨⟨v, hv, hrow, _⟩, hz4, hB⟩ hlt
    have hc := hv.cell
    have hB1 := hB.size
    gi_wp2_with (gi_at_builtin; refine wpListIn_append_own _ rfl _ _ 49 rfl w.heap.size 27 i0 (.int .u64 0) 1 8 Try.underlying49 hi hz0 hz1 hz2 rfl (by decide) _ _ _ rfl (hrow.alloc _) ⟨W.heap.size, 0, none⟩ 1 1 [.int .u64 x.2] rfl rfl (cell_one_new _ _ _) (by simp [Value.oneCell']) (by simp [maxLen]; omega) (by omega) (by simp; omega) ?_; intro v' w1 hown' hgrow _; obtain ⟨g', cap', rfl⟩ := ownsRow_succ hown'; obtain ⟨hv1, hv2, hr2, hk2, hb2⟩ := hv.appended (by decide) hrow hB.size (by omega) hown' hgrow; have hc1 := hv1.cell; have hf1 := hv1.frozen)
    have hkz := app_keep (y := y) (v' := .slice (some ⟨g', 0, none⟩) (pre.length + 1) cap') hz4 (by decide) hrow hgrow (by omega)
    exact ⟨hk2, hkz, ⟨_, hv2, by rw [List.map_append, List.length_append]; simpa [us] using hr2, trivial⟩, hkz.trans hz4, hB.trans hb2⟩
  case done =>
    rintro D ys W hD rfl ⟨⟨v, hv, hrow, _⟩, hz4, hB⟩ hK
    have hc := hv.cell
    go_wp2
    go_wp2
    refine ⟨by simp, .inl ⟨_, _, rfl, run_takeDeferred hK, ?_⟩⟩
    refine ⟨_, results_tmp2 rfl _ _ _, v, rfl, ?_, hB.trans (belowK_b (w := w) (Nat.le_refl _) W D _ _ (by omega) hK rfl rfl)⟩
    have h := ownsRow_putObj hrow (.deferred none) hK rfl
    rw [en_snd, en_len] at h
    exact h
  case stop =>
    rintro D c pre W _ _ h _
    exact h.elim
end LW
end Go.Proofs.Ytahmjdnnkifmnaa
