/-
 The law's call whose answer is known.
-/
import Derived.Test.YtdjanbojhblijaaGreatCkCg
import Derived.Test.YtdjanbojhblijaaGreatTvBg
namespace Go.Proofs.YtdjanbojhblijaaGreat
open Go.RowKit
set_option linter.unusedVariables false
set_option linter.unusedSimpArgs false
namespace LW
open Mc
def smT : Syst := ⟨[[]], [], 0, 0, 1⟩
def smL : List Ev := [⟨0, 16, 0, 0, false⟩, ⟨0, 16, 0, 0, false⟩]
theorem sm_nil (p : Nat) : (smT.progs.getD p []) = [] := by
 rcases p with _ | p <;> rfl
theorem sm_ok : Ok smT := by
 refine ⟨by decide, by decide, by decide, by decide, by decide, by decide, fun i hi => by simp [smT] at hi, fun p hp => by rw [sm_nil]; simp, fun p hp j hj => ?_⟩
 rw [sm_nil] at hj
 simp at hj
theorem sm_gd : Tr.Gd smT smL smL.length := by
 intro j hj
 have hj : j < 2 := hj
 have he : smL.getD j Tr.e0 = ⟨0, 16, 0, 0, false⟩ := by
  rcases (show j = 0 ∨ j = 1 by omega) with rfl | rfl <;> rfl
 rw [he]
 have hr := Tr.rnC_pos (smL.take j)
 refine ⟨⟨by decide, by show (0 : Int) < _; omega, by decide, by decide, fun m hm => ?_⟩, fun h => ?_, fun h => ?_, fun h => ?_, fun h => ?_⟩
 ·unfold Tr.mnC at hm
  simp at hm
 all_goals (exact absurd h (by decide))
theorem sm_be : beE smT smL 0 1 = 0 ∧ beA smT smL 0 1 = true := by
 have h1 : (Tr.vR smT smL).2.2 = 0 := by rw [Tr.vR_good sm_ok (by decide) sm_gd]
 have h2 : beE smT smL 0 1 = 0 := by
  unfold beE
  rw [if_pos h1, if_pos (by decide)]
 refine ⟨h2, ?_⟩
 unfold beA
 rw [h2]
 have h3 := (Tr.bf_iff smT smL 0 1 (by decide) (by decide)).1 (Tr.bf_own smT smL 0 1 (by decide) (by decide) rfl)
 show (true && bfB smT smL 0 1) = true
 unfold bfB
 rw [decide_eq_true h3]
 rfl
theorem cells_ten (w : World) (a b c d e f g h i j : Value) (t : TypeId) : ∀ k u, [a, b, c, d, e, f, g, h, i, j][k]? = some u → (w.alloc (.cells #[a, b, c, d, e, f, g, h, i, j] t)).cell? ((⟨w.heap.size, 0, none⟩ : Addr).add k) = some u := by
 intro k u hk
 have hadd : (⟨w.heap.size, 0, none⟩ : Addr).add k = ⟨w.heap.size, k, none⟩ := by unfold Addr.add; split <;> simp_all
 rw [hadd, cell_of_row _ _ k _ t (0, 0) (heap_alloc_new w _)]
 simpa using hk
theorem slIinfo : (Tryz.prog.info? 73).map (fun i => (i.zero, i.size, i.bytes)) = some (some (.slice none 0 0), 1, 24) := by kernel_rfl
set_option maxRecDepth 100000 in
set_option maxHeartbeats 4000000 in
theorem lsmall (w : World) : Calls Tryz.prog 8 #[] w fun e w' => ∃ pa pc, e = .returned (.agg #[.slice pa 1 pc, .slice none 0 0, .int .i64 0, .int .i64 0, .int .i64 1]) ∧ SyI w' smT pa none ∧ Below w.heap.size w w' := by
 obtain ⟨ie, hie, hz0, hz1, hz2⟩ := info_parts' slIinfo
 go_enter Tryz.func8, Tryz.ntmps8
 refine wp_seq_k fun K hK => ?_
 have HK := TW.hide hK
 clear hK
 go_wp2
 refine HK.out _ _ ?_
 clear HK
 refine wp_seq_k fun K hK => ?_
 have HK := TW.hide hK
 clear hK
 go_wp2
 refine HK.out _ _ ?_
 clear HK
 have N0 : Hid (((w.alloc (.cells #[.slice none 0 0, .slice none 0 0, .int .i64 0, .int .i64 0, .int .i64 0] 25)).alloc (.cells #[.slice none 0 0, .slice none 0 0, .int .i64 0, .int .i64 0, .int .i64 0] 25)).heap[w.heap.size]? = some (.cells #[.slice none 0 0, .slice none 0 0, .int .i64 0, .int .i64 0, .int .i64 0] 25 (0, 0))) := blk_alloc (heap_alloc_new w _)
 have N1 : Hid (((w.alloc (.cells #[.slice none 0 0, .slice none 0 0, .int .i64 0, .int .i64 0, .int .i64 0] 25)).alloc (.cells #[.slice none 0 0, .slice none 0 0, .int .i64 0, .int .i64 0, .int .i64 0] 25)).heap[w.heap.size + 1]? = some (.cells #[.slice none 0 0, .slice none 0 0, .int .i64 0, .int .i64 0, .int .i64 0] 25 (0, 0))) := by
  have h1 := heap_alloc_new (w.alloc (.cells #[.slice none 0 0, .slice none 0 0, .int .i64 0, .int .i64 0, .int .i64 0] 25)) (.cells #[.slice none 0 0, .slice none 0 0, .int .i64 0, .int .i64 0, .int .i64 0] 25)
  have h2 : (w.alloc (.cells #[.slice none 0 0, .slice none 0 0, .int .i64 0, .int .i64 0, .int .i64 0] 25)).heap.size = w.heap.size + 1 := by simp
  rw [h2] at h1
  exact h1
 have NB : Hid (Below w.heap.size w ((w.alloc (.cells #[.slice none 0 0, .slice none 0 0, .int .i64 0, .int .i64 0, .int .i64 0] 25)).alloc (.cells #[.slice none 0 0, .slice none 0 0, .int .i64 0, .int .i64 0, .int .i64 0] 25))) := ((Below.refl _ _).alloc (Nat.le_refl _) _).alloc (by simp) _
 generalize World.alloc _ _ = X at *
 obtain ⟨s0, s1, s2, s3, s4⟩ := cellsY5 N1.out
 have HF5 : Hid (∀ v5 w5, w5.ownsRow X.heap.size 73 1 v5 1 [.slice none 0 0] → (X.alloc (.cells #[.slice none 0 0] 73)).grownBy w5 none → (∃ gb vc, v5 = .slice (some ⟨gb, 0, none⟩) 1 vc ∧ X.heap.size ≤ gb ∧ (w5.setCell ⟨w.heap.size + 1, 0, none⟩ v5).cell? ⟨gb, 0, none⟩ = some (.slice none 0 0)) ∧ w5.frozen? ⟨w.heap.size + 1, 0, none⟩ = false ∧ (∃ z, w5.cell? ⟨w.heap.size + 1, 0, none⟩ = some z) ∧ (w5.setCell ⟨w.heap.size + 1, 0, none⟩ v5).heap[w.heap.size]? = some (.cells #[.slice none 0 0, .slice none 0 0, .int .i64 0, .int .i64 0, .int .i64 0] 25 (0, 0)) ∧ (w5.setCell ⟨w.heap.size + 1, 0, none⟩ v5).heap[w.heap.size + 1]? = some (.cells #[v5, .slice none 0 0, .int .i64 0, .int .i64 0, .int .i64 0] 25 (0, 0)) ∧ Below w.heap.size w (w5.setCell ⟨w.heap.size + 1, 0, none⟩ v5)) := fun v5 w5 h1 h2 => by
  have hA := (Below.refl X.heap.size X).alloc (Nat.le_refl _) (.cells #[.slice none 0 0] 73)
  have hB : Below X.heap.size X w5 := hA.trans (((Below.refl _ _).grown h2 (Nat.le_refl _) (by intro k h; cases h)).mono hA.size)
  have n0 := blk_keep N0.out hB
  have n1 := blk_keep N1.out hB
  have g1 := blk_lt N1.out
  refine ⟨?_, by simp [World.frozen?, n1], ⟨_, blk_cell n1 (i := 0) rfl⟩, ?_, blk_set n1, ((NB.out.trans (hB.mono NB.out.size)).setCell (p := ⟨w.heap.size + 1, 0, none⟩) (by simp) _)⟩
  ·rcases h1.2 with ⟨_, h3⟩ | ⟨g, cap, cur, e, hg, hh, _, _, hcs, ht⟩
   ·simp at h3
   ·subst e
    refine ⟨g, cap, rfl, hg, ?_⟩
    have hne : g ≠ w.heap.size + 1 := by omega
    rw [cell_of (show (w5.setCell ⟨w.heap.size + 1, 0, none⟩ _).heap[g]? = w5.heap[g]? from Below.heap_setCell _ _ _ _ hne)]
    have h4 : (cur.toList.take (1 * 1))[0]? = some (.slice none 0 0) := by rw [ht]; rfl
    rw [List.getElem?_take, if_pos (by omega), Array.getElem?_toList] at h4
    rw [cell_of_row w5 g 0 cur _ (0, 0) hh]
    exact h4
  ·rw [Below.heap_setCell _ _ _ _ (by simp)]
   exact n0
 have HG1 : Hid (w.heap.size < w.heap.size + 1) := Nat.lt_succ_self _
 have HG2 : Hid (w.heap.size + 1 < X.heap.size) := blk_lt N1.out
 generalize w.heap.size + 1 = g1 at *
 refine wp_seq_k fun K hK => ?_
 have HK := TW.hide hK
 clear hK
 go_wp2_with (at_builtin; refine wpList_append_own_at _ rfl _ _ 22 rfl X.heap.size 73 ie (.slice none 0 0) 1 24 Tryz.underlying22 hie hz0 hz1 hz2 rfl (by decide) _ 0 [] rfl (World.ownsRow_nil _ _ _ _) ⟨X.heap.size, 0, none⟩ 1 1 [.slice none 0 0] rfl rfl (cell_one_new _ _ _) (by simp [Value.oneCell']) (by unfold maxLen; omega) (by omega) (by simp) ?_; (intro v5 w5 h51 h52 _ h53); obtain ⟨⟨gb, vc, rfl, hgb, hp5⟩, f5, ⟨z5, c5⟩, n5, m5, b5⟩ := HF5.out v5 w5 h51 h52; have HGb := TW.hide hgb; have HP5 := TW.hide hp5; have N5 := TW.hide n5; have M5 := TW.hide m5; have B5 := TW.hide b5; clear h51 h52 h53 hgb hp5 n5 m5 b5 HF5 s0 s1 s2 s3 s4)
 refine HK.out _ _ ?_
 clear HK f5 c5
 generalize World.setCell _ _ _ = Y at *
 obtain ⟨s0, s1, s2, s3, s4⟩ := cellsY5 M5.out
 have f4 : Y.frozen? ⟨g1, 4, none⟩ = false := by simp [World.frozen?, M5.out]
 have hg1 : w.heap.size ≤ g1 := by have := HG1.out; omega
 have M6 : Hid ((Y.setCell ⟨g1, 4, none⟩ (.int .i64 1)).heap[g1]? = some (.cells #[.slice (some ⟨gb, 0, none⟩) 1 vc, .slice none 0 0, .int .i64 0, .int .i64 0, .int .i64 1] 25 (0, 0))) := blk_set M5.out
 have N6 : Hid ((Y.setCell ⟨g1, 4, none⟩ (.int .i64 1)).heap[w.heap.size]? = some (.cells #[.slice none 0 0, .slice none 0 0, .int .i64 0, .int .i64 0, .int .i64 0] 25 (0, 0))) := by
  show _ = _
  rw [Below.heap_setCell _ _ _ _ (show w.heap.size ≠ g1 by have := HG1.out; omega)]
  exact N5.out
 have B6 : Hid (Below w.heap.size w (Y.setCell ⟨g1, 4, none⟩ (.int .i64 1))) := B5.out.setCell (p := ⟨g1, 4, none⟩) hg1 _
 have HP6 : Hid ((Y.setCell ⟨g1, 4, none⟩ (.int .i64 1)).cell? ⟨gb, 0, none⟩ = some (.slice none 0 0)) := by
  show _ = _
  rw [cell_of (show (Y.setCell ⟨g1, 4, none⟩ (.int .i64 1)).heap[gb]? = Y.heap[gb]? from Below.heap_setCell _ _ _ _ (show gb ≠ g1 by have := HG2.out; have := HGb.out; omega))]
  exact HP5.out
 clear N5 M5 B5 HP5
 refine wp_seq_k fun K hK => ?_
 have HK := TW.hide hK
 clear hK
 go_wp2
 refine HK.out _ _ ?_
 clear HK s0 s1 s2 s3 s4 f4
 generalize World.setCell _ _ _ = Z at *
 obtain ⟨s0, s1, s2, s3, s4⟩ := cellsY5 M6.out
 have HP7 : Hid ((Z.setRow w.heap.size #[.slice (some ⟨gb, 0, none⟩) 1 vc, .slice none 0 0, .int .i64 0, .int .i64 0, .int .i64 1]).cell? ⟨gb, 0, none⟩ = some (.slice none 0 0)) := by
  show _ = _
  rw [cell_of (setRow_other Z w.heap.size gb _ (by have := HG1.out; have := HG2.out; have := HGb.out; omega))]
  exact HP6.out
 have B7 : Hid (Below w.heap.size w (Z.setRow w.heap.size #[.slice (some ⟨gb, 0, none⟩) 1 vc, .slice none 0 0, .int .i64 0, .int .i64 0, .int .i64 1])) := below_setRow B6.out (Nat.le_refl _)
 have N7 := TW.hide (setRow_heap _ _ _ #[.slice (some ⟨gb, 0, none⟩) 1 vc, .slice none 0 0, .int .i64 0, .int .i64 0, .int .i64 1] _ _ N6.out)
 go_wp2_with (refine wpList_store_row (by rfl) 25 _ _ (by rfl) w.heap.size #[.slice (some ⟨gb, 0, none⟩) 1 vc, .slice none 0 0, .int .i64 0, .int .i64 0, .int .i64 1] (by rfl) (by rfl) 25 _ N6.out (by kernel_rfl) (by rfl) (by simp [Value.oneCell']) ?_; generalize World.setRow _ _ _ = V at *)
 refine bodyPost_ret (v := .agg #[.slice (some ⟨gb, 0, none⟩) 1 vc, .slice none 0 0, .int .i64 0, .int .i64 0, .int .i64 1]) (results_cell_row (P := Tryz.prog) Tryz.results8 _ _ w.heap.size 25 _ (0, 0) _ rfl N7.out Tryz.underlying25 rfl (by kernel_rfl)) rfl ?_
 refine ⟨_, vc, rfl, ⟨⟨.inr ⟨gb, 0, rfl, fun p hp => ?_⟩, .inl rfl⟩, by decide, by decide, fun p => by rw [sm_nil]; decide, fun p j => by rw [sm_nil]; exact ⟨i64_0, i64_0, i64_0, i64_0⟩⟩, B7.out⟩
 have hp : p = 0 := by simp [smT] at hp; omega
 subst hp
 exact ⟨none, 0, HP7.out, .inl rfl⟩
set_option maxRecDepth 100000 in
set_option maxHeartbeats 4000000 in
theorem lalive (w : World) : Calls Tryz.prog 4 #[] w fun e w' => e = .returned (.bool true) ∧ Below w.heap.size w w' := by
 obtain ⟨ie, hie, hz0, hz1, hz2⟩ := info_parts' evinfo
 have HBe : Hid (∀ pa pc a c W, SyI W smT pa none → EvI W a c smL → Calls Tryz.prog 7 #[.agg #[.slice pa 1 pc, .slice none 0 0, .int .i64 0, .int .i64 0, .int .i64 1], .slice a 2 c, .int .i64 0, .int .i64 1] W fun e w' => e = .returned (.tuple #[.bool true, .int .i64 0]) ∧ Below W.heap.size W w') := fun pa pc a c W h1 h2 => by
  have := ptbefore smT pa pc none 0 a c smL 0 1 W h1 h2
  rw [sm_be.1, sm_be.2] at this
  exact this
 have HF5 : Hid (∀ v5 w5, w5.ownsRow w.heap.size 35 5 v5 2 [.int .i64 0, .int .i64 16, .int .i64 0, .int .i64 0, .bool false, .int .i64 0, .int .i64 16, .int .i64 0, .int .i64 0, .bool false] → (w.alloc (.cells #[.int .i64 0, .int .i64 16, .int .i64 0, .int .i64 0, .bool false, .int .i64 0, .int .i64 16, .int .i64 0, .int .i64 0, .bool false] 35)).grownBy w5 none → (∃ a c, v5 = .slice a 2 c ∧ EvI w5 a c smL) ∧ Below w.heap.size w w5) := fun v5 w5 h1 h2 => by
  have hA := (Below.refl w.heap.size w).alloc (Nat.le_refl _) (.cells #[.int .i64 0, .int .i64 16, .int .i64 0, .int .i64 0, .bool false, .int .i64 0, .int .i64 16, .int .i64 0, .int .i64 0, .bool false] 35)
  obtain ⟨a, c, e, h3, h4, h5, h6⟩ := er_own (l := smL) (B := w.heap.size) h1
  refine ⟨⟨a, c, e, ⟨h3, fun j => ?_, h4, h5, h6⟩⟩, hA.trans (((Below.refl _ _).grown h2 (Nat.le_refl _) (by intro k h; cases h)).mono hA.size)⟩
  have he : Tr.ev smL j = ⟨0, 16, 0, 0, false⟩ ∨ Tr.ev smL j = Tr.e0 := by
   rcases j with _ | _ | j
   ·exact .inl rfl
   ·exact .inl rfl
   ·exact .inr rfl
  rcases he with he | he <;> rw [he]
  ·refine ⟨i64_0, ?_, i64_0, i64_0⟩
   show i64 16
   unfold i64; omega
  ·exact iEv_0
 go_enter Tryz.func4, Tryz.ntmps4
 refine wp_seq_k fun K hK => ?_
 have HK := TW.hide hK
 clear hK
 go_wp2
 refine HK.out _ _ ?_
 clear HK
 refine wp_seq_k fun K hK => ?_
 have HK := TW.hide hK
 clear hK
 go_wp2
 refine HK.out _ _ ?_
 clear HK
 refine wp_seq_k fun K hK => ?_
 have HK := TW.hide hK
 clear hK
 go_wp2_with (at_builtin; refine wpList_append_own_at _ rfl _ _ 26 rfl w.heap.size 35 ie _ 5 40 Tryz.underlying26 hie hz0 hz1 hz2 rfl (by decide) _ 0 [] rfl (World.ownsRow_nil _ _ _ _) ⟨w.heap.size, 0, none⟩ 2 2 [.int .i64 0, .int .i64 16, .int .i64 0, .int .i64 0, .bool false, .int .i64 0, .int .i64 16, .int .i64 0, .int .i64 0, .bool false] rfl rfl (cells_ten _ _ _ _ _ _ _ _ _ _ _ _) (by simp [Value.oneCell']) (by unfold maxLen; omega) (by omega) (by simp) ?_; (intro v5 w5 h51 h52 _ h53); obtain ⟨⟨a5, c5, rfl, he5⟩, b5⟩ := HF5.out v5 w5 h51 h52; have HE5 := TW.hide he5; have B5 := TW.hide b5; clear h51 h52 h53 he5 b5 HF5)
 refine HK.out _ _ ?_
 clear HK
 refine wp_seq_k fun K hK => ?_
 have HK := TW.hide hK
 clear hK
 go_wp2_with fail
 refine (lsmall w5).mono ?_
 rintro e6 w6 ⟨pa, pc, rfl, hs6, hb6⟩
 have HB := TW.hide (HBe.out pa pc a5 c5 w6 hs6 (HE5.out.below hb6))
 have B6 : Hid (Below w.heap.size w w6) := B5.out.trans (hb6.mono B5.out.size)
 clear hs6 hb6 HBe HE5 B5
 go_wp2_with fail
 refine HB.out.mono ?_
 rintro e7 w7 ⟨rfl, hb7⟩
 have B7 : Hid (Below w.heap.size w w7) := B6.out.trans (hb7.mono B6.out.size)
 clear hb7 HB B6
 go_wp2
 refine HK.out _ _ ?_
 clear HK
 go_wp2
 go_ret
 exact ⟨rfl, B7.out⟩
end LW
end Go.Proofs.YtdjanbojhblijaaGreat
