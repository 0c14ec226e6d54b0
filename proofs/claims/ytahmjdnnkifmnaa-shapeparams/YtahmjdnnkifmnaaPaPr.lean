/-
  What Params of the program gives.
-/
import Derived.Test.YtahmjdnnkifmnaaParen
import Derived.Test.YtahmjdnnkifmnaaKept
namespace Go.Proofs.Ytahmjdnnkifmnaa
open Go.RowKit
set_option linter.unusedVariables false
set_option linter.unusedSimpArgs false
namespace LW
open Words
/-- The cells of a node's parameters. -/
def pcC (d : Int) (kl : Nat) (f dp lf : Int) (at_ : Nat) (r inn : Int) (v1 v2 : Value) : Array Value := #[.int .i64 d, .int .i64 kl, .int .i64 f, .int .i64 dp, .int .u32 lf, .int .u64 at_, .int .u32 0, .int .i64 r, .int .i64 inn, v1, v2]
/-- What Params hands back: the numbers, and two lists of its own. -/
def PaP (C : Value → Value → Array Value) (E : Int) (s t : List Int) (w : World) (e : Ending) (w' : World) : Prop :=
  ∃ v1 v2, e = .returned (.tuple #[.agg (C v1 v2), .int .i64 E]) ∧ w'.ownsRow w.heap.size 5 1 v1 s.length (vs s) ∧ w'.ownsRow w.heap.size 5 1 v2 t.length (vs t) ∧ Below w.heap.size w w'
theorem own_keep {w w' : World} {B n : Nat} {v : Value} {xs : List Value} (h : w.ownsRow B 5 1 v n xs) (hb : Below w.heap.size w w') : w'.ownsRow B 5 1 v n xs := by
  refine ⟨h.1, ?_⟩
  rcases h.2 with ⟨rfl, h0⟩ | ⟨g, cap, cur, rfl, hg, hh, hr⟩
  · exact .inl ⟨rfl, h0⟩
  · exact .inr ⟨g, cap, cur, rfl, hg, blk_keep hh hb, hr⟩
theorem own_low {w : World} {B B' n : Nat} {v : Value} {xs : List Value} (h : w.ownsRow B 5 1 v n xs) (hb : B' ≤ B) : w.ownsRow B' 5 1 v n xs := by
  refine ⟨h.1, ?_⟩
  rcases h.2 with ⟨rfl, h0⟩ | ⟨g, cap, cur, rfl, hg, hr⟩
  · exact .inl ⟨rfl, h0⟩
  · exact .inr ⟨g, cap, cur, rfl, by omega, hr⟩
theorem own_sl {w : World} {B n : Nat} {v : Value} {xs : List Value} (h : w.ownsRow B 5 1 v n xs) : ∃ a l c, v = .slice a l c := by
  rcases h.2 with ⟨rfl, h0⟩ | ⟨g, cap, cur, rfl, hg, hr⟩ <;> exact ⟨_, _, _, rfl⟩
theorem own_set {w : World} {B n : Nat} {v : Value} {xs : List Value} {g : Nat} {cs : Array Value} (h : w.ownsRow B 5 1 v n xs) (hg : g < B) : (w.setRow g cs).ownsRow B 5 1 v n xs := by
  refine ⟨h.1, ?_⟩
  rcases h.2 with ⟨rfl, h0⟩ | ⟨k, cap, cur, rfl, hk, hh, hr⟩
  · exact .inl ⟨rfl, h0⟩
  · exact .inr ⟨k, cap, cur, rfl, hk, blk_other' hh (by omega), hr⟩
theorem own_one {w : World} {B n : Nat} {v : Value} {xs : List Value} (h : w.ownsRow B 5 1 v n xs) : v.oneCell' = true := by
  rcases h.2 with ⟨rfl, h0⟩ | ⟨g, cap, cur, rfl, hg, hr⟩ <;> rfl
set_option maxRecDepth 100000 in
set_option maxHeartbeats 2000000 in
theorem paramE (T : Tr) (hT : 0 ≤ T.lf ∧ T.lf < 4294967296) (n : Nat) (hn : n < 18446744073709551616) (r : Int) (at_ : Nat) (E : Int) (hE : E ≠ 0) (a b c : Nat) (d : Int) (L : Tr) (n' m' : Nat)
    (H : ∀ W, Calls Try.prog 18 #[.agg (trC T), .int .u64 n, .int .i64 r, .int .u64 at_] W fun e w' => e = .returned (.tuple #[.agg (lyC L n' m'), .agg (stC d a b c), .int .i64 E]) ∧ Below W.heap.size W w') (w : World) : Calls Try.prog 11 #[.agg (trC T), .int .u64 n, .int .i64 r, .int .u64 at_] w (PaP (pcC 0 0 0 0 0 0 0 0) E [] [] w) := by
  have HL := TW.hide H
  clear H
  unfold trC lyC stC at HL
  unfold trC
  have n0 := heap_alloc_new w (.cells #[.int .i64 T.k, .int .i64 T.d, .int .i64 T.f, .int .i64 T.dp, .int .u32 T.lf, .int .i64 T.inn, .slice T.ka T.kl T.kc, .slice T.sa T.sl T.sc, .slice T.pa T.pl T.pc] 26)
  have hb0 := (Below.refl w.heap.size w).alloc (Nat.le_refl _) (.cells #[.int .i64 T.k, .int .i64 T.d, .int .i64 T.f, .int .i64 T.dp, .int .u32 T.lf, .int .i64 T.inn, .slice T.ka T.kl T.kc, .slice T.sa T.sl T.sc, .slice T.pa T.pl T.pc] 26)
  have n1 := heap_alloc_new (w.alloc (.cells #[.int .i64 T.k, .int .i64 T.d, .int .i64 T.f, .int .i64 T.dp, .int .u32 T.lf, .int .i64 T.inn, .slice T.ka T.kl T.kc, .slice T.sa T.sl T.sc, .slice T.pa T.pl T.pc] 26)) (.cells #[.int .i64 0, .int .i64 0, .int .i64 0, .int .i64 0, .int .u32 0, .int .u64 0, .int .u32 0, .int .i64 0, .int .i64 0, .slice none 0 0, .slice none 0 0] 42)
  rw [show (w.alloc (.cells #[.int .i64 T.k, .int .i64 T.d, .int .i64 T.f, .int .i64 T.dp, .int .u32 T.lf, .int .i64 T.inn, .slice T.ka T.kl T.kc, .slice T.sa T.sl T.sc, .slice T.pa T.pl T.pc] 26)).heap.size = w.heap.size + 1 by simp] at n1
  have n0 := blk_alloc (o' := .cells #[.int .i64 0, .int .i64 0, .int .i64 0, .int .i64 0, .int .u32 0, .int .u64 0, .int .u32 0, .int .i64 0, .int .i64 0, .slice none 0 0, .slice none 0 0] 42) n0
  have hb1 := hb0.alloc hb0.size (.cells #[.int .i64 0, .int .i64 0, .int .i64 0, .int .i64 0, .int .u32 0, .int .u64 0, .int .u32 0, .int .i64 0, .int .i64 0, .slice none 0 0, .slice none 0 0] 42)
  have N0 := TW.hide n0
  have N1 := TW.hide n1
  have B0 := TW.hide hb1
  clear n0 n1 hb0 hb1
  go_enter Try.func11, Try.ntmps11
  refine wp_seq_k fun K hK => ?_
  have HK := TW.hide hK
  clear hK
  go_wp2_with fail
  refine HK.out _ _ ?_
  clear HK K
  generalize (w.alloc _).alloc _ = X at *
  generalize hB : w.heap.size = B at *
  have HBB := TW.hide hB
  clear hB
  obtain ⟨c0, c1, c2, c3, c4, c5, c6, c7, c8⟩ := cells9 N0.out
  refine wp_seq_k fun K hK => ?_
  have HK := TW.hide hK
  clear hK
  go_wp2_with fail
  refine (HL.out _).mono ?_
  rintro e1 w1 ⟨rfl, hb⟩
  clear c0 c1 c2 c3 c4 c5 c6 c7 c8
  have N0 := TW.hide (blk_keep N0.out hb)
  have N1 := TW.hide (blk_keep N1.out hb)
  have B1 : Hid (Below B w w1) := B0.out.trans (hb.mono (by have := B0.out.size; have := HBB.out; omega))
  clear B0 hb
  obtain ⟨Z, hZ, G2, G3, hbz⟩ := two_new w1 #[.int .i64 0, .int .i64 0, .int .i64 0, .int .i64 0, .int .u32 0, .int .i64 0, .slice none 0 0, .slice none 0 0, .slice none 0 0, .int .u64 0, .int .u64 0] #[.int .i64 0, .int .u64 0, .int .u64 0, .int .u64 0] #[.int .i64 L.k, .int .i64 L.d, .int .i64 L.f, .int .i64 L.dp, .int .u32 L.lf, .int .i64 L.inn, .slice L.ka L.kl L.kc, .slice L.sa L.sl L.sc, .slice L.pa L.pl L.pc, .int .u64 n', .int .u64 m'] #[.int .i64 d, .int .u64 a, .int .u64 b, .int .u64 c] 57 59
  have HZ := TW.hide hZ
  clear hZ
  go_wp2_with (first | (refine wpList_store_row (by rfl) 57 _ _ (by rfl) (w1.heap.size) #[.int .i64 L.k, .int .i64 L.d, .int .i64 L.f, .int .i64 L.dp, .int .u32 L.lf, .int .i64 L.inn, .slice L.ka L.kl L.kc, .slice L.sa L.sl L.sc, .slice L.pa L.pl L.pc, .int .u64 n', .int .u64 m'] (by rfl) (by rfl) 57 _ (blk_alloc (heap_alloc_new w1 (.cells #[.int .i64 0, .int .i64 0, .int .i64 0, .int .i64 0, .int .u32 0, .int .i64 0, .slice none 0 0, .slice none 0 0, .slice none 0 0, .int .u64 0, .int .u64 0] 57))) (by kernel_rfl) (by rfl) (by simp [Value.oneCell']) ?_) | (refine wpList_store_row (by rfl) 59 _ _ (by rfl) (w1.heap.size + 1) #[.int .i64 d, .int .u64 a, .int .u64 b, .int .u64 c] (by rfl) (by rfl) 59 _ (blk_other' (new1 w1 _ _) (show w1.heap.size + 1 ≠ w1.heap.size by omega)) (by kernel_rfl) (by rfl) (by simp [Value.oneCell']) ?_))
  rw [HZ.out]
  clear HZ
  refine HK.out _ _ ?_
  clear HK K
  have N0 := TW.hide (blk_keep N0.out hbz)
  have N1 := TW.hide (blk_keep N1.out hbz)
  have B2 : Hid (Below B w Z) := B1.out.trans (hbz.mono (by have := B1.out.size; have := HBB.out; omega))
  clear B1 hbz
  have hE' : (E != 0) = true := by simp [hE]
  go_wp2_with (refine wpList_store_row (by rfl) 42 _ _ (by rfl) (B + 1) #[.int .i64 0, .int .i64 0, .int .i64 0, .int .i64 0, .int .u32 0, .int .u64 0, .int .u32 0, .int .i64 0, .int .i64 0, .slice none 0 0, .slice none 0 0] (by rfl) (by rfl) 42 _ N1.out (by kernel_rfl) (by rfl) (by simp [Value.oneCell']) ?_)
  refine bodyPost_ret (v := .tuple #[.agg #[.int .i64 0, .int .i64 0, .int .i64 0, .int .i64 0, .int .u32 0, .int .u64 0, .int .u32 0, .int .i64 0, .int .i64 0, .slice none 0 0, .slice none 0 0], .int .i64 E]) (results_row_tmp (P := Try.prog) Try.results11 _ _ (B + 1) 42 _ (0, 0) _ _ (by rfl) (by rfl) (setRow_heap _ _ _ _ _ _ N1.out) Try.underlying42 rfl (by kernel_rfl)) rfl ?_
  exact ⟨.slice none 0 0, .slice none 0 0, rfl, World.ownsRow_nil _ _ _ _, World.ownsRow_nil _ _ _ _, by rw [HBB.out]; exact below_setRow B2.out (by omega)⟩
set_option maxRecDepth 100000 in
set_option maxHeartbeats 2000000 in
theorem paramG (T : Tr) (s t : List Int) (n m : Nat) (r : Int) (at_ q b : Nat)
    (H : ∀ W, Calls Try.prog 18 #[.agg (trC T), .int .u64 n, .int .i64 r, .int .u64 at_] W fun e w' => e = .returned (.tuple #[.agg (lyC T n m), .agg (stC r at_ q b), .int .i64 0]) ∧ Below W.heap.size W w') (w : World)
    (H1 : ∀ W, Below w.heap.size w W → Calls Try.prog 23 #[.slice T.sa T.sl T.sc] W (KpP W s))
    (H2 : ∀ W, Below w.heap.size w W → Calls Try.prog 23 #[.slice T.pa T.pl T.pc] W (KpP W t)) : Calls Try.prog 11 #[.agg (trC T), .int .u64 n, .int .i64 r, .int .u64 at_] w (PaP (pcC T.d T.kl T.f T.dp T.lf at_ r T.inn) 0 (kpL s) (kpL t) w) := by
  have HL := TW.hide H
  have HU := TW.hide H1
  have HV := TW.hide H2
  clear H H1 H2
  unfold trC lyC stC at HL
  unfold trC
  have n0 := heap_alloc_new w (.cells #[.int .i64 T.k, .int .i64 T.d, .int .i64 T.f, .int .i64 T.dp, .int .u32 T.lf, .int .i64 T.inn, .slice T.ka T.kl T.kc, .slice T.sa T.sl T.sc, .slice T.pa T.pl T.pc] 26)
  have hb0 := (Below.refl w.heap.size w).alloc (Nat.le_refl _) (.cells #[.int .i64 T.k, .int .i64 T.d, .int .i64 T.f, .int .i64 T.dp, .int .u32 T.lf, .int .i64 T.inn, .slice T.ka T.kl T.kc, .slice T.sa T.sl T.sc, .slice T.pa T.pl T.pc] 26)
  have n1 := heap_alloc_new (w.alloc (.cells #[.int .i64 T.k, .int .i64 T.d, .int .i64 T.f, .int .i64 T.dp, .int .u32 T.lf, .int .i64 T.inn, .slice T.ka T.kl T.kc, .slice T.sa T.sl T.sc, .slice T.pa T.pl T.pc] 26)) (.cells #[.int .i64 0, .int .i64 0, .int .i64 0, .int .i64 0, .int .u32 0, .int .u64 0, .int .u32 0, .int .i64 0, .int .i64 0, .slice none 0 0, .slice none 0 0] 42)
  rw [show (w.alloc (.cells #[.int .i64 T.k, .int .i64 T.d, .int .i64 T.f, .int .i64 T.dp, .int .u32 T.lf, .int .i64 T.inn, .slice T.ka T.kl T.kc, .slice T.sa T.sl T.sc, .slice T.pa T.pl T.pc] 26)).heap.size = w.heap.size + 1 by simp] at n1
  have n0 := blk_alloc (o' := .cells #[.int .i64 0, .int .i64 0, .int .i64 0, .int .i64 0, .int .u32 0, .int .u64 0, .int .u32 0, .int .i64 0, .int .i64 0, .slice none 0 0, .slice none 0 0] 42) n0
  have hb1 := hb0.alloc hb0.size (.cells #[.int .i64 0, .int .i64 0, .int .i64 0, .int .i64 0, .int .u32 0, .int .u64 0, .int .u32 0, .int .i64 0, .int .i64 0, .slice none 0 0, .slice none 0 0] 42)
  have N0 := TW.hide n0
  have N1 := TW.hide n1
  have B0 := TW.hide hb1
  clear n0 n1 hb0 hb1
  go_enter Try.func11, Try.ntmps11
  refine wp_seq_k fun K hK => ?_
  have HK := TW.hide hK
  clear hK
  go_wp2_with fail
  refine HK.out _ _ ?_
  clear HK K
  generalize (w.alloc _).alloc _ = X at *
  generalize hB : w.heap.size = B at *
  have HBB := TW.hide hB
  clear hB
  obtain ⟨c0, c1, c2, c3, c4, c5, c6, c7, c8⟩ := cells9 N0.out
  refine wp_seq_k fun K hK => ?_
  have HK := TW.hide hK
  clear hK
  go_wp2_with fail
  refine (HL.out _).mono ?_
  rintro e1 w1 ⟨rfl, hb⟩
  clear c0 c1 c2 c3 c4 c5 c6 c7 c8
  have BG0 : Hid (B + 2 ≤ w1.heap.size) := by have := hb.size; have := blk_lt N1.out; show _ ≤ _; omega
  have N0 := TW.hide (blk_keep N0.out hb)
  have N1 := TW.hide (blk_keep N1.out hb)
  have B1 : Hid (Below B w w1) := B0.out.trans (hb.mono (by have := B0.out.size; have := HBB.out; omega))
  clear B0 hb
  obtain ⟨Z, hZ, K2, K3, hbz⟩ := two_new w1 #[.int .i64 0, .int .i64 0, .int .i64 0, .int .i64 0, .int .u32 0, .int .i64 0, .slice none 0 0, .slice none 0 0, .slice none 0 0, .int .u64 0, .int .u64 0] #[.int .i64 0, .int .u64 0, .int .u64 0, .int .u64 0] #[.int .i64 T.k, .int .i64 T.d, .int .i64 T.f, .int .i64 T.dp, .int .u32 T.lf, .int .i64 T.inn, .slice T.ka T.kl T.kc, .slice T.sa T.sl T.sc, .slice T.pa T.pl T.pc, .int .u64 n, .int .u64 m] #[.int .i64 r, .int .u64 at_, .int .u64 q, .int .u64 b] 57 59
  have HZ := TW.hide hZ
  clear hZ
  go_wp2_with (first | (refine wpList_store_row (by rfl) 57 _ _ (by rfl) (w1.heap.size) #[.int .i64 T.k, .int .i64 T.d, .int .i64 T.f, .int .i64 T.dp, .int .u32 T.lf, .int .i64 T.inn, .slice T.ka T.kl T.kc, .slice T.sa T.sl T.sc, .slice T.pa T.pl T.pc, .int .u64 n, .int .u64 m] (by rfl) (by rfl) 57 _ (blk_alloc (heap_alloc_new w1 (.cells #[.int .i64 0, .int .i64 0, .int .i64 0, .int .i64 0, .int .u32 0, .int .i64 0, .slice none 0 0, .slice none 0 0, .slice none 0 0, .int .u64 0, .int .u64 0] 57))) (by kernel_rfl) (by rfl) (by simp [Value.oneCell']) ?_) | (refine wpList_store_row (by rfl) 59 _ _ (by rfl) (w1.heap.size + 1) #[.int .i64 r, .int .u64 at_, .int .u64 q, .int .u64 b] (by rfl) (by rfl) 59 _ (blk_other' (new1 w1 _ _) (show w1.heap.size + 1 ≠ w1.heap.size by omega)) (by kernel_rfl) (by rfl) (by simp [Value.oneCell']) ?_))
  rw [HZ.out]
  clear HZ
  refine HK.out _ _ ?_
  clear HK K
  have K2 := TW.hide K2
  have K3 := TW.hide K3
  have N0 := TW.hide (blk_keep N0.out hbz)
  have N1 := TW.hide (blk_keep N1.out hbz)
  have B2 : Hid (Below B w Z) := B1.out.trans (hbz.mono (by have := B1.out.size; have := HBB.out; omega))
  clear B1 hbz
  have BG : Hid (B + 2 ≤ w1.heap.size) := by
    show _ ≤ _
    exact BG0.out
  clear BG0
  generalize w1.heap.size = g at *
  refine wp_seq_k fun K hK => ?_
  have HK := TW.hide hK
  clear hK
  go_wp2
  refine HK.out _ _ ?_
  clear HK K
  generalize Z = V at *
  refine wp_seq_k fun KQ hK => ?_
  have HQ := TW.hide hK
  clear hK
  refine wp_region_noPanic ?_
  refine RG.wp_region_L (fun Z => True) (fun Z => Z.heap[B]? = some (.cells #[.int .i64 T.k, .int .i64 T.d, .int .i64 T.f, .int .i64 T.dp, .int .u32 T.lf, .int .i64 T.inn, .slice T.ka T.kl T.kc, .slice T.sa T.sl T.sc, .slice T.pa T.pl T.pc] 26 (0, 0)) ∧ Z.heap[g + 1]? = some (.cells #[.int .i64 r, .int .u64 at_, .int .u64 q, .int .u64 b] 59 (0, 0))) [] (by kernel_rfl) ?_
  refine RG.wpL_any fun Y hY => ?_
  have hH : Y.heap = V.heap := by rw [hY]; rfl
  have HT : Hid (Y.heap[B]? = some (.cells #[.int .i64 T.k, .int .i64 T.d, .int .i64 T.f, .int .i64 T.dp, .int .u32 T.lf, .int .i64 T.inn, .slice T.ka T.kl T.kc, .slice T.sa T.sl T.sc, .slice T.pa T.pl T.pc] 26 (0, 0)) ∧ Y.heap[g + 1]? = some (.cells #[.int .i64 r, .int .u64 at_, .int .u64 q, .int .u64 b] 59 (0, 0))) := ⟨by rw [hH]; exact N0.out, by rw [hH]; exact K3.out⟩
  have M1 : Hid (Y.heap[B + 1]? = some (.cells #[.int .i64 0, .int .i64 0, .int .i64 0, .int .i64 0, .int .u32 0, .int .u64 0, .int .u32 0, .int .i64 0, .int .i64 0, .slice none 0 0, .slice none 0 0] 42 (0, 0))) := by rw [hH]; exact N1.out
  have HY1 : Hid (B + 1 < Y.heap.size) := blk_lt M1.out
  have BY : Hid (Below B w Y) := by rw [hY]; exact below_drewN B2.out 1
  clear hY hH N0 N1 B2 K2 K3
  refine RG.wpL_take (fuel := 5) (a' := ?Aa) [0, 1, 2, 3, 4, 5, 6, 7, 8, 9, 10, 11, 12, 13, 14, 15, 16, 17, 18, 20, 21] (by kernel_rfl) (by kernel_rfl) (fun _ _ _ _ _ h => h) HT.out (fun _ => trivial) ?ra ?_
  case ra =>
    refine RG.RunsIf.weak (v := ?_) (by rfl) (by rfl) (fun Z hT => ?_) ?_
    rotate_left
    · go_simp
      rfl
    simp only [Act.put, List.setIfInBounds_toArray, List.set_cons_zero, List.set_cons_succ, List.getElem_toArray, List.getElem_cons_zero, List.getElem_cons_succ]
    refine RG.RunsIf.weak (v := .int .i64 T.d) (by rfl) (by rfl) (fun Z hT => ?_) ?_
    · obtain ⟨c0, c1, c2, c3, c4, c5, c6, c7, c8⟩ := cells9 hT.1
      go_simp
    simp only [Act.put, List.setIfInBounds_toArray, List.set_cons_zero, List.set_cons_succ, List.getElem_toArray, List.getElem_cons_zero, List.getElem_cons_succ]
    refine RG.RunsIf.weak (v := ?_) (by rfl) (by rfl) (fun Z hT => ?_) ?_
    rotate_left
    · go_simp
      rfl
    simp only [Act.put, List.setIfInBounds_toArray, List.set_cons_zero, List.set_cons_succ, List.getElem_toArray, List.getElem_cons_zero, List.getElem_cons_succ]
    refine RG.RunsIf.weak (v := .slice T.ka T.kl T.kc) (by rfl) (by rfl) (fun Z hT => ?_) ?_
    · obtain ⟨c0, c1, c2, c3, c4, c5, c6, c7, c8⟩ := cells9 hT.1
      go_simp
    simp only [Act.put, List.setIfInBounds_toArray, List.set_cons_zero, List.set_cons_succ, List.getElem_toArray, List.getElem_cons_zero, List.getElem_cons_succ]
    refine RG.RunsIf.weak (v := ?_) (by rfl) (by rfl) (fun Z hT => ?_) ?_
    rotate_left
    · go_simp
      rfl
    simp only [Act.put, List.setIfInBounds_toArray, List.set_cons_zero, List.set_cons_succ, List.getElem_toArray, List.getElem_cons_zero, List.getElem_cons_succ]
    refine RG.RunsIf.weak (v := ?_) (by rfl) (by rfl) (fun Z hT => ?_) ?_
    rotate_left
    · go_simp
      rfl
    simp only [Act.put, List.setIfInBounds_toArray, List.set_cons_zero, List.set_cons_succ, List.getElem_toArray, List.getElem_cons_zero, List.getElem_cons_succ]
    refine RG.RunsIf.weak (v := .int .i64 T.f) (by rfl) (by rfl) (fun Z hT => ?_) ?_
    · obtain ⟨c0, c1, c2, c3, c4, c5, c6, c7, c8⟩ := cells9 hT.1
      go_simp
    simp only [Act.put, List.setIfInBounds_toArray, List.set_cons_zero, List.set_cons_succ, List.getElem_toArray, List.getElem_cons_zero, List.getElem_cons_succ]
    refine RG.RunsIf.weak (v := ?_) (by rfl) (by rfl) (fun Z hT => ?_) ?_
    rotate_left
    · go_simp
      rfl
    simp only [Act.put, List.setIfInBounds_toArray, List.set_cons_zero, List.set_cons_succ, List.getElem_toArray, List.getElem_cons_zero, List.getElem_cons_succ]
    refine RG.RunsIf.weak (v := .int .i64 T.dp) (by rfl) (by rfl) (fun Z hT => ?_) ?_
    · obtain ⟨c0, c1, c2, c3, c4, c5, c6, c7, c8⟩ := cells9 hT.1
      go_simp
    simp only [Act.put, List.setIfInBounds_toArray, List.set_cons_zero, List.set_cons_succ, List.getElem_toArray, List.getElem_cons_zero, List.getElem_cons_succ]
    refine RG.RunsIf.weak (v := ?_) (by rfl) (by rfl) (fun Z hT => ?_) ?_
    rotate_left
    · go_simp
      rfl
    simp only [Act.put, List.setIfInBounds_toArray, List.set_cons_zero, List.set_cons_succ, List.getElem_toArray, List.getElem_cons_zero, List.getElem_cons_succ]
    refine RG.RunsIf.weak (v := .int .u32 T.lf) (by rfl) (by rfl) (fun Z hT => ?_) ?_
    · obtain ⟨c0, c1, c2, c3, c4, c5, c6, c7, c8⟩ := cells9 hT.1
      go_simp
    simp only [Act.put, List.setIfInBounds_toArray, List.set_cons_zero, List.set_cons_succ, List.getElem_toArray, List.getElem_cons_zero, List.getElem_cons_succ]
    refine RG.RunsIf.weak (v := ?_) (by rfl) (by rfl) (fun Z hT => ?_) ?_
    rotate_left
    · go_simp
      rfl
    simp only [Act.put, List.setIfInBounds_toArray, List.set_cons_zero, List.set_cons_succ, List.getElem_toArray, List.getElem_cons_zero, List.getElem_cons_succ]
    refine RG.RunsIf.weak (v := .int .u64 at_) (by rfl) (by rfl) (fun Z hT => ?_) ?_
    · obtain ⟨⟨d0, d1, d2, d3⟩, _⟩ := cells4 hT.2
      go_simp
    simp only [Act.put, List.setIfInBounds_toArray, List.set_cons_zero, List.set_cons_succ, List.getElem_toArray, List.getElem_cons_zero, List.getElem_cons_succ]
    refine RG.RunsIf.weak (v := ?_) (by rfl) (by rfl) (fun Z hT => ?_) ?_
    rotate_left
    · go_simp
      rfl
    simp only [Act.put, List.setIfInBounds_toArray, List.set_cons_zero, List.set_cons_succ, List.getElem_toArray, List.getElem_cons_zero, List.getElem_cons_succ]
    refine RG.RunsIf.weak (v := .int .i64 r) (by rfl) (by rfl) (fun Z hT => ?_) ?_
    · obtain ⟨⟨d0, d1, d2, d3⟩, _⟩ := cells4 hT.2
      go_simp
    simp only [Act.put, List.setIfInBounds_toArray, List.set_cons_zero, List.set_cons_succ, List.getElem_toArray, List.getElem_cons_zero, List.getElem_cons_succ]
    refine RG.RunsIf.weak (v := ?_) (by rfl) (by rfl) (fun Z hT => ?_) ?_
    rotate_left
    · go_simp
      rfl
    simp only [Act.put, List.setIfInBounds_toArray, List.set_cons_zero, List.set_cons_succ, List.getElem_toArray, List.getElem_cons_zero, List.getElem_cons_succ]
    refine RG.RunsIf.weak (v := .int .i64 T.inn) (by rfl) (by rfl) (fun Z hT => ?_) ?_
    · obtain ⟨c0, c1, c2, c3, c4, c5, c6, c7, c8⟩ := cells9 hT.1
      go_simp
    simp only [Act.put, List.setIfInBounds_toArray, List.set_cons_zero, List.set_cons_succ, List.getElem_toArray, List.getElem_cons_zero, List.getElem_cons_succ]
    refine RG.RunsIf.weak (v := ?_) (by rfl) (by rfl) (fun Z hT => ?_) ?_
    rotate_left
    · go_simp
      rfl
    simp only [Act.put, List.setIfInBounds_toArray, List.set_cons_zero, List.set_cons_succ, List.getElem_toArray, List.getElem_cons_zero, List.getElem_cons_succ]
    refine RG.RunsIf.weak (v := .slice T.sa T.sl T.sc) (by rfl) (by rfl) (fun Z hT => ?_) ?_
    · obtain ⟨c0, c1, c2, c3, c4, c5, c6, c7, c8⟩ := cells9 hT.1
      go_simp
    simp only [Act.put, List.setIfInBounds_toArray, List.set_cons_zero, List.set_cons_succ, List.getElem_toArray, List.getElem_cons_zero, List.getElem_cons_succ]
    refine RG.RunsIf.weak (v := ?_) (by rfl) (by rfl) (fun Z hT => ?_) ?_
    rotate_left
    · go_simp
      rfl
    simp only [Act.put, List.setIfInBounds_toArray, List.set_cons_zero, List.set_cons_succ, List.getElem_toArray, List.getElem_cons_zero, List.getElem_cons_succ]
    refine RG.RunsIf.weak (v := .slice T.pa T.pl T.pc) (by rfl) (by rfl) (fun Z hT => ?_) ?_
    · obtain ⟨c0, c1, c2, c3, c4, c5, c6, c7, c8⟩ := cells9 hT.1
      go_simp
    simp only [Act.put, List.setIfInBounds_toArray, List.set_cons_zero, List.set_cons_succ, List.getElem_toArray, List.getElem_cons_zero, List.getElem_cons_succ]
    exact RG.RunsIf.nil
  refine RG.wpL_step (i := 19) (by kernel_rfl) (by rfl) (by rfl) (fun KX hK => ?_)
  have HK := TW.hide hK
  clear hK
  go_simp
  refine (HU.out _ (HBB.out ▸ BY.out)).mono ?_
  rintro ex0 W0 ⟨v1, rfl, ho, hb⟩
  obtain ⟨a1, l1, p1, rfl⟩ := own_sl ho
  have HO0 := TW.hide ho
  have HT2 := TW.hide (⟨blk_keep HT.out.1 hb, blk_keep HT.out.2 hb⟩ : W0.heap[B]? = some (.cells #[.int .i64 T.k, .int .i64 T.d, .int .i64 T.f, .int .i64 T.dp, .int .u32 T.lf, .int .i64 T.inn, .slice T.ka T.kl T.kc, .slice T.sa T.sl T.sc, .slice T.pa T.pl T.pc] 26 (0, 0)) ∧ W0.heap[g + 1]? = some (.cells #[.int .i64 r, .int .u64 at_, .int .u64 q, .int .u64 b] 59 (0, 0)))
  have M2 := TW.hide (blk_keep M1.out hb)
  have HS0 := TW.hide hb.size
  have BY2 : Hid (Below B w W0) := BY.out.trans (hb.mono (by have := BY.out.size; have := HBB.out; omega))
  skip
  refine HK.out _ _ HT2.out (fun _ => trivial) ?_
  clear HK KX HT M1 BY ho hb
  try simp only [Act.put, List.setIfInBounds_toArray, List.set_cons_zero, List.set_cons_succ, List.getElem_toArray, List.getElem_cons_zero, List.getElem_cons_succ]
  refine RG.wpL_step (i := 22) (by kernel_rfl) (by rfl) (by rfl) (fun KX hK => ?_)
  have HK := TW.hide hK
  clear hK
  go_simp
  refine (HV.out _ (HBB.out ▸ BY2.out)).mono ?_
  rintro ex1 W1 ⟨v2, rfl, ho, hb⟩
  obtain ⟨a2, l2, p2, rfl⟩ := own_sl ho
  have HO1 := TW.hide ho
  have HT3 := TW.hide (⟨blk_keep HT2.out.1 hb, blk_keep HT2.out.2 hb⟩ : W1.heap[B]? = some (.cells #[.int .i64 T.k, .int .i64 T.d, .int .i64 T.f, .int .i64 T.dp, .int .u32 T.lf, .int .i64 T.inn, .slice T.ka T.kl T.kc, .slice T.sa T.sl T.sc, .slice T.pa T.pl T.pc] 26 (0, 0)) ∧ W1.heap[g + 1]? = some (.cells #[.int .i64 r, .int .u64 at_, .int .u64 q, .int .u64 b] 59 (0, 0)))
  have M3 := TW.hide (blk_keep M2.out hb)
  have HS1 := TW.hide hb.size
  have BY3 : Hid (Below B w W1) := BY2.out.trans (hb.mono (by have := BY2.out.size; have := HBB.out; omega))
  have HO0 : Hid (W1.ownsRow Y.heap.size 5 1 (.slice a1 l1 p1) (kpL s).length (vs (kpL s))) := own_keep HO0.out hb
  refine HK.out _ _ HT3.out (fun _ => trivial) ?_
  clear HK KX HT2 M2 BY2 ho hb
  try simp only [Act.put, List.setIfInBounds_toArray, List.set_cons_zero, List.set_cons_succ, List.getElem_toArray, List.getElem_cons_zero, List.getElem_cons_succ]
  refine RG.wpL_take (fuel := 2) (a' := ?Ab) [23] (by kernel_rfl) (by kernel_rfl) (fun _ _ _ _ _ h => h) HT3.out (fun _ => trivial) ?rb ?_
  case rb =>
    refine RG.RunsIf.weak (v := .agg #[.int .i64 T.d, .int .i64 T.kl, .int .i64 T.f, .int .i64 T.dp, .int .u32 T.lf, .int .u64 at_, .int .u32 0, .int .i64 r, .int .i64 T.inn, .slice a1 l1 p1, .slice a2 l2 p2]) (by rfl) (by rfl) (fun Z hT => ?_) ?_
    · go_simp
    simp only [Act.put, List.setIfInBounds_toArray, List.set_cons_zero, List.set_cons_succ, List.getElem_toArray, List.getElem_cons_zero, List.getElem_cons_succ]
    exact RG.RunsIf.nil
  refine RG.wpL_step (i := 24) (by kernel_rfl) (by rfl) (by rfl) (fun KX hK => ?_)
  have HK := TW.hide hK
  clear hK
  refine wp_store_row 42 _ _ (by rfl) (B + 1) #[.int .i64 T.d, .int .i64 T.kl, .int .i64 T.f, .int .i64 T.dp, .int .u32 T.lf, .int .u64 at_, .int .u32 0, .int .i64 r, .int .i64 T.inn, .slice a1 l1 p1, .slice a2 l2 p2] (by rfl) (by rfl) 42 _ M3.out (by kernel_rfl) (by rfl) (by simp [Value.oneCell']) ?_
  try simp only [Act.put, List.setIfInBounds_toArray, List.set_cons_zero, List.set_cons_succ, List.getElem_toArray, List.getElem_cons_zero, List.getElem_cons_succ]
  have HT4 := TW.hide (⟨blk_other' (cs := #[.int .i64 T.d, .int .i64 T.kl, .int .i64 T.f, .int .i64 T.dp, .int .u32 T.lf, .int .u64 at_, .int .u32 0, .int .i64 r, .int .i64 T.inn, .slice a1 l1 p1, .slice a2 l2 p2]) HT3.out.1 (show B ≠ B + 1 by omega), blk_other' (cs := #[.int .i64 T.d, .int .i64 T.kl, .int .i64 T.f, .int .i64 T.dp, .int .u32 T.lf, .int .u64 at_, .int .u32 0, .int .i64 r, .int .i64 T.inn, .slice a1 l1 p1, .slice a2 l2 p2]) HT3.out.2 (show g + 1 ≠ B + 1 by have := BG.out; omega)⟩ : (W1.setRow (B + 1) #[.int .i64 T.d, .int .i64 T.kl, .int .i64 T.f, .int .i64 T.dp, .int .u32 T.lf, .int .u64 at_, .int .u32 0, .int .i64 r, .int .i64 T.inn, .slice a1 l1 p1, .slice a2 l2 p2]).heap[B]? = some (.cells #[.int .i64 T.k, .int .i64 T.d, .int .i64 T.f, .int .i64 T.dp, .int .u32 T.lf, .int .i64 T.inn, .slice T.ka T.kl T.kc, .slice T.sa T.sl T.sc, .slice T.pa T.pl T.pc] 26 (0, 0)) ∧ (W1.setRow (B + 1) #[.int .i64 T.d, .int .i64 T.kl, .int .i64 T.f, .int .i64 T.dp, .int .u32 T.lf, .int .u64 at_, .int .u32 0, .int .i64 r, .int .i64 T.inn, .slice a1 l1 p1, .slice a2 l2 p2]).heap[g + 1]? = some (.cells #[.int .i64 r, .int .u64 at_, .int .u64 q, .int .u64 b] 59 (0, 0)))
  have M4 := TW.hide (setRow_heap _ _ _ #[.int .i64 T.d, .int .i64 T.kl, .int .i64 T.f, .int .i64 T.dp, .int .u32 T.lf, .int .u64 at_, .int .u32 0, .int .i64 r, .int .i64 T.inn, .slice a1 l1 p1, .slice a2 l2 p2] _ _ M3.out)
  have BY4 : Hid (Below B w (W1.setRow (B + 1) #[.int .i64 T.d, .int .i64 T.kl, .int .i64 T.f, .int .i64 T.dp, .int .u32 T.lf, .int .u64 at_, .int .u32 0, .int .i64 r, .int .i64 T.inn, .slice a1 l1 p1, .slice a2 l2 p2])) := below_setRow BY3.out (by omega)
  have hgY : B + 1 < Y.heap.size := HY1.out
  have HO2 := TW.hide (own_set (cs := #[.int .i64 T.d, .int .i64 T.kl, .int .i64 T.f, .int .i64 T.dp, .int .u32 T.lf, .int .u64 at_, .int .u32 0, .int .i64 r, .int .i64 T.inn, .slice a1 l1 p1, .slice a2 l2 p2]) HO0.out hgY)
  have HO3 := TW.hide (own_set (cs := #[.int .i64 T.d, .int .i64 T.kl, .int .i64 T.f, .int .i64 T.dp, .int .u32 T.lf, .int .u64 at_, .int .u32 0, .int .i64 r, .int .i64 T.inn, .slice a1 l1 p1, .slice a2 l2 p2]) HO1.out (Nat.lt_of_lt_of_le hgY HS0.out))
  refine HK.out _ _ HT4.out (fun _ => trivial) ?_
  clear HK KX HT3 M3 BY3 HO0 HO1
  generalize W1.setRow _ _ = Y4 at *
  refine RG.wpL_take (fuel := 0) (a' := ?Ac) [25] (by kernel_rfl) (by kernel_rfl) (fun _ _ _ _ _ h => h) HT4.out (fun _ => trivial) ?rc ?_
  case rc =>
    refine RG.RunsIf.weak (v := ?_) (by rfl) (by rfl) (fun Z hT => ?_) ?_
    rotate_left
    · go_simp
      rfl
    simp only [Act.put, List.setIfInBounds_toArray, List.set_cons_zero, List.set_cons_succ, List.getElem_toArray, List.getElem_cons_zero, List.getElem_cons_succ]
    exact RG.RunsIf.nil
  refine RG.wpL_done (by kernel_rfl) ?_ _
  refine NoPanic.normal ?_
  refine HQ.out _ _ ?_
  clear HQ KQ
  go_wp2
  refine bodyPost_ret (v := .tuple #[.agg #[.int .i64 T.d, .int .i64 T.kl, .int .i64 T.f, .int .i64 T.dp, .int .u32 T.lf, .int .u64 at_, .int .u32 0, .int .i64 r, .int .i64 T.inn, .slice a1 l1 p1, .slice a2 l2 p2], .int .i64 0]) (results_row_tmp (P := Try.prog) Try.results11 _ _ (B + 1) 42 _ (0, 0) _ _ (by rfl) (by rfl) M4.out Try.underlying42 rfl (by kernel_rfl)) rfl ?_
  have hs0 := HS0.out
  have hby : w.heap.size ≤ Y.heap.size := by rw [HBB.out]; omega
  exact ⟨_, _, rfl, own_low HO2.out hby, own_low HO3.out (by omega), by rw [HBB.out]; exact BY4.out⟩
end LW
end Go.Proofs.Ytahmjdnnkifmnaa
