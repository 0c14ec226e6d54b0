/-
  What Spot of the document gives, where there is such a node.
-/
import Derived.Test.YtcpegipojkbcoaaRSpot
namespace Go.Proofs.Ytcpegipojkbcoaa
open Go.RowKit
set_option linter.unusedVariables false
set_option linter.unusedSimpArgs false
namespace LW
open Words
theorem cells6f {w : World} {b : Nat} {t : TypeId} {v0 v1 v2 v3 v4 v5 : Value} (h : w.heap[b]? = some (.cells #[v0, v1, v2, v3, v4, v5] t (0, 0))) :
    (w.cell? ⟨b, 0, none⟩ = some v0 ∧ w.cell? ⟨b, 1, none⟩ = some v1 ∧ w.cell? ⟨b, 2, none⟩ = some v2 ∧ w.cell? ⟨b, 3, none⟩ = some v3 ∧ w.cell? ⟨b, 4, none⟩ = some v4 ∧ w.cell? ⟨b, 5, none⟩ = some v5) ∧ w.frozen? ⟨b, 2, none⟩ = false ∧ w.frozen? ⟨b, 3, none⟩ = false := by
  simp [World.cell?, World.frozen?, h]
set_option maxRecDepth 100000 in
set_option maxHeartbeats 2000000 in
theorem rspotK (T : Tr) (hT : 0 ≤ T.lf ∧ T.lf < 4294967296) (n : Nat) (hn : n < 18446744073709551616) (hE : lvE T n = 0) (i at_ : Nat) (hh : Has (roL T n) (i : Int) at_) (w : World) : Calls Try.prog 37 #[.agg (trC T), .int .u64 n, .int .i64 (i : Int), .int .u64 at_] w fun e w' => e = .returned (.tuple #[.agg (spC (i : Int) at_ (frN T (roL T n) (i : Int) at_) (toN T n (roL T n) (i : Int) at_) (laB (roL T n) (i : Int) at_) (rtB (roL T n) (i : Int))), .int .i64 0]) ∧ Below w.heap.size w w' := by
  have HL := TW.hide (fun W => rrowsOk T hT n hn hE W)
  have hne : roL T n ≠ [] := by unfold roL; simp
  have hRw : Rws T (lv T n) (roL T n) := rws (T := T) (m := lv T n) (lvE_ok hE) (by unfold lv; omega) (lv_lt T n (by have := vd_ok (lvE_ok hE); omega) hn)
  have hvo := vd_ok (lvE_ok hE)
  unfold RoP at HL
  have HOW : Hid (∀ (W : World) (B : Nat) (v : Value), W.ownsRow B 27 1 v (roL T n).length (us (roL T n)) → ∃ a cap, v = .slice a (roL T n).length cap ∧ UR W a (roL T n)) := fun W B v h => ur_own hne h
  have HUR : Hid (∀ (W : World) (a : Option Addr), UR W a (roL T n) → ∃ b, a = some ⟨b, 0, none⟩ ∧ ∀ i, i < (roL T n).length → W.cell? ⟨b, i, none⟩ = some (.int .u64 ((roL T n).getD i 0 : Nat))) := fun W a h => by obtain ⟨b, e, _, h⟩ := h; exact ⟨b, e, h⟩
  obtain ⟨f1, f2, f3, f4, f5, f6⟩ := spot_facts hn (lvE_ok hE) hT.1 hRw hh
  clear f1 f4 f6
  obtain ⟨h1, h2, h3⟩ := hh
  rw [Int.toNat_natCast] at h3
  have hil : i < (roL T n).length := by omega
  have hqs := hRw.small i hil
  have hqp := hRw.pos i hil
  have h255 := hRw.most
  have htwo := hRw.two
  have hla : ((at_ : Int) == IntKind.u64.wrap ((((roL T n).getD i 0 : Nat) : Int) - 1)) = laB (roL T n) (i : Int) at_ := by
    rw [show IntKind.u64.wrap ((((roL T n).getD i 0 : Nat) : Int) - 1) = (((roL T n).getD i 0 : Nat) : Int) - 1 by rw [IntKind.wrap_u64]; omega, Bool.eq_iff_iff]
    unfold laB
    rw [Int.toNat_natCast]
    simp only [beq_iff_eq, decide_eq_true_eq]
    omega
  have hro : ((i : Int) == IntKind.i64.wrap ((((roL T n).length : Nat) : Int) - 1)) = rtB (roL T n) (i : Int) := by
    rw [show IntKind.i64.wrap ((((roL T n).length : Nat) : Int) - 1) = (((roL T n).length : Nat) : Int) - 1 by rw [IntKind.wrap_i64]; omega, Bool.eq_iff_iff]
    unfold rtB
    rw [Int.toNat_natCast]
    simp only [beq_iff_eq, decide_eq_true_eq]
    omega
  have hro2 : ((i : Int) == (((roL T n).length : Nat) : Int) - 1) = rtB (roL T n) (i : Int) := by
    rw [Bool.eq_iff_iff]
    unfold rtB
    rw [Int.toNat_natCast]
    simp only [beq_iff_eq, decide_eq_true_eq]
    omega
  have hfr : rtB (roL T n) (i : Int) = false → IntKind.u64.wrap ((at_ : Int) * (byN T (i : Int) : Nat)) = (frN T (roL T n) (i : Int) at_ : Nat) := by
    intro h
    have e : frN T (roL T n) (i : Int) at_ = at_ * byN T (i : Int) := by unfold frN; rw [h]; simp
    rw [← Int.natCast_mul, ← e, IntKind.wrap_u64]
    omega
  have hto : rtB (roL T n) (i : Int) = false → laB (roL T n) (i : Int) at_ = false → IntKind.u64.wrap ((frN T (roL T n) (i : Int) at_ : Nat) + (byN T (i : Int) : Nat)) = (toN T n (roL T n) (i : Int) at_ : Nat) := by
    intro h h'
    have e : frN T (roL T n) (i : Int) at_ = at_ * byN T (i : Int) := by unfold frN; rw [h]; simp
    have e' : toN T n (roL T n) (i : Int) at_ = at_ * byN T (i : Int) + byN T (i : Int) := by unfold toN; rw [h, h']; simp
    rw [e, ← Int.natCast_add, ← e', IntKind.wrap_u64]
    omega
  have hfr0 : rtB (roL T n) (i : Int) = true → frN T (roL T n) (i : Int) at_ = 0 := by intro h; unfold frN; rw [h]; simp
  have hto0 : rtB (roL T n) (i : Int) = true → toN T n (roL T n) (i : Int) at_ = blw n (roL T n) (i : Int) := by intro h; unfold toN; rw [h]; simp
  have hto1 : rtB (roL T n) (i : Int) = false → laB (roL T n) (i : Int) at_ = true → toN T n (roL T n) (i : Int) at_ = blw n (roL T n) (i : Int) := by intro h h'; unfold toN; rw [h, h']; simp
  have hb0 : i = 0 → blw n (roL T n) (i : Int) = n ∧ byN T (i : Int) = T.lf.toNat ∧ rtB (roL T n) (i : Int) = false := by
    rintro rfl
    refine ⟨by simp [blw], by simp [byN], ?_⟩
    unfold rtB
    simp
    omega
  have hb1 : 0 < i → blw n (roL T n) (i : Int) = (roL T n).getD (i - 1) 0 ∧ byN T (i : Int) = T.f.toNat := by
    intro h
    refine ⟨?_, ?_⟩
    · unfold blw
      rw [if_neg (by omega), Int.toNat_natCast]
    · unfold byN
      rw [if_neg (by omega)]
  have HFR := TW.hide hfr
  have HTO := TW.hide hto
  have HFR0 := TW.hide hfr0
  have HTO0 := TW.hide hto0
  have HTO1 := TW.hide hto1
  have HB0 := TW.hide hb0
  have HB1 := TW.hide hb1
  have H3 := TW.hide h3
  clear hfr hto hfr0 hto0 hto1 hb0 hb1 hRw h2 h3 hqs hqp f2 f3 f5 hne
  generalize frN T (roL T n) (i : Int) at_ = fr at *
  generalize toN T n (roL T n) (i : Int) at_ = tt at *
  generalize laB (roL T n) (i : Int) at_ = la at *
  generalize rtB (roL T n) (i : Int) = ro at *
  generalize blw n (roL T n) (i : Int) = bl at *
  generalize byN T (i : Int) = by_ at *
  have wL : IntKind.u64.wrap T.lf = T.lf := by rw [IntKind.wrap_u64]; omega
  have wF : IntKind.u64.wrap T.f = T.f := by rw [IntKind.wrap_u64]; omega
  have hLn : ((T.lf.toNat : Nat) : Int) = T.lf := by omega
  have hFn : ((T.f.toNat : Nat) : Int) = T.f := by omega
  clear hE
  generalize roL T n = R at *
  generalize hlen : R.length = len at *
  clear hlen
  have HLn := TW.hide hLn
  have HFn := TW.hide hFn
  clear hLn hFn hvo htwo
  unfold trC spC at *
  have n0 := heap_alloc_new w (.cells #[.int .i64 T.k, .int .i64 T.d, .int .i64 T.f, .int .i64 T.dp, .int .u32 T.lf, .int .i64 T.inn, .slice T.ka T.kl T.kc, .slice T.sa T.sl T.sc, .slice T.pa T.pl T.pc] 26)
  have hb0 := (Below.refl w.heap.size w).alloc (Nat.le_refl _) (.cells #[.int .i64 T.k, .int .i64 T.d, .int .i64 T.f, .int .i64 T.dp, .int .u32 T.lf, .int .i64 T.inn, .slice T.ka T.kl T.kc, .slice T.sa T.sl T.sc, .slice T.pa T.pl T.pc] 26)
  have n1 := heap_alloc_new (w.alloc (.cells #[.int .i64 T.k, .int .i64 T.d, .int .i64 T.f, .int .i64 T.dp, .int .u32 T.lf, .int .i64 T.inn, .slice T.ka T.kl T.kc, .slice T.sa T.sl T.sc, .slice T.pa T.pl T.pc] 26)) (.cells #[.int .i64 0, .int .u64 0, .int .u64 0, .int .u64 0, .bool false, .bool false] 50)
  rw [show (w.alloc (.cells #[.int .i64 T.k, .int .i64 T.d, .int .i64 T.f, .int .i64 T.dp, .int .u32 T.lf, .int .i64 T.inn, .slice T.ka T.kl T.kc, .slice T.sa T.sl T.sc, .slice T.pa T.pl T.pc] 26)).heap.size = w.heap.size + 1 by simp] at n1
  have n0 := blk_alloc (o' := .cells #[.int .i64 0, .int .u64 0, .int .u64 0, .int .u64 0, .bool false, .bool false] 50) n0
  have hb1 := hb0.alloc hb0.size (.cells #[.int .i64 0, .int .u64 0, .int .u64 0, .int .u64 0, .bool false, .bool false] 50)
  have N0 := TW.hide n0
  have N1 := TW.hide n1
  have B0 := TW.hide hb1
  clear n0 n1 hb0 hb1
  go_enter Try.func37, Try.ntmps37
  refine wp_seq_k fun K hK => ?_
  have HK := TW.hide hK
  clear hK
  go_wp2_with fail
  refine HK.out _ _ ?_
  clear HK K
  generalize (w.alloc _).alloc _ = X at *
  generalize hB : w.heap.size = B at *
  have HBB := TW.hide hB
  clear hB
  obtain ⟨c0, c1, c2, c3, c4, c5, c6, c7, c8⟩ := cells9 N0.out
  refine wp_seq_k fun K hK => ?_
  have HK := TW.hide hK
  clear hK
  go_wp2_with fail
  refine (HL.out _).mono ?_
  rintro e1 w1 ⟨v1, rfl, hown, hb⟩
  obtain ⟨a1, cap1, rfl, hur⟩ := HOW.out _ _ _ hown
  obtain ⟨b1, rfl, hcell⟩ := HUR.out _ _ hur
  have HC := TW.hide hcell
  clear hown hur hcell HOW HUR HL c0 c1 c2 c3 c4 c5 c6 c7 c8
  have N0 := TW.hide (blk_keep N0.out hb)
  have N1 := TW.hide (blk_keep N1.out hb)
  have B2 : Hid (Below B w w1) := B0.out.trans (hb.mono (by have := B0.out.size; have := HBB.out; omega))
  clear B0 hb
  go_wp2
  refine HK.out _ _ ?_
  clear HK K
  refine wp_seq_k fun K hK => ?_
  have HK := TW.hide hK
  clear hK
  go_wp2
  refine HK.out _ _ ?_
  clear HK K
  refine wp_seq_k fun K hK => ?_
  have HK := TW.hide hK
  clear hK
  have dq := HC.out i hil
  have hq3 := H3.out
  clear H3
  generalize R.getD i 0 = q at *
  have h0 : (0 : Int) ≤ (i : Int) := by omega
  have hi3 : (i : Int) < (len : Int) := by omega
  have hi4 : ¬ (i : Int) < 0 := by omega
  have hi5 : ¬ (len : Int) ≤ (i : Int) := by omega
  have hi6 : ¬ (q : Int) ≤ (at_ : Int) := by omega
  go_wp2
  refine HK.out _ _ ?_
  clear HK K
  refine wp_seq_k fun K hK => ?_
  have HK := TW.hide hK
  clear hK
  have N1b := TW.hide N1.out
  go_wp2
  refine HK.out _ _ ?_
  clear HK K
  have n3 := heap_alloc_new w1 (.cells #[.int .i64 (i : Int), .int .u64 at_, .int .u64 0, .int .u64 0, .bool la, .bool ro] 50)
  have G3 := TW.hide n3
  have N0 := TW.hide (blk_alloc (o' := .cells #[.int .i64 (i : Int), .int .u64 at_, .int .u64 0, .int .u64 0, .bool la, .bool ro] 50) N0.out)
  have N1 := TW.hide (blk_alloc (o' := .cells #[.int .i64 (i : Int), .int .u64 at_, .int .u64 0, .int .u64 0, .bool la, .bool ro] 50) N1.out)
  have hbv := (Below.refl w1.heap.size w1).alloc (Nat.le_refl _) (.cells #[.int .i64 (i : Int), .int .u64 at_, .int .u64 0, .int .u64 0, .bool la, .bool ro] 50)
  have HBV := TW.hide hbv
  have B3 : Hid (Below B w (w1.alloc (.cells #[.int .i64 (i : Int), .int .u64 at_, .int .u64 0, .int .u64 0, .bool la, .bool ro] 50))) := B2.out.alloc (by have := B2.out.size; have := HBB.out; omega) _
  have BG : Hid (B + 2 ≤ w1.heap.size) := by have := blk_lt N1b.out; show _ ≤ _; omega
  clear n3 hbv B2 dq hla hro hro2 hi6 hq3 hi4 hi5
  generalize w1.alloc _ = V at *
  have HCV : Hid (∀ j, j < len → V.cell? ⟨b1, j, none⟩ = some (.int .u64 (R.getD j 0 : Nat))) := fun j hj => (HBV.out.cell (p := ⟨b1, j, none⟩) (lt_of_cell (HC.out j hj))).trans (HC.out j hj)
  clear HC HBV N1b
  generalize w1.heap.size = g at *
  obtain ⟨c0, c1, c2, c3, c4, c5, c6, c7, c8⟩ := cells9 N0.out
  obtain ⟨⟨s0, s1, s2, s3, s4, s5⟩, z2, z3⟩ := cells6f G3.out
  refine wp_seq_k fun K hK => ?_
  have HK := TW.hide hK
  clear hK
  go_wp2
  refine HK.out _ _ ?_
  clear HK K
  refine wp_seq_k fun K hK => ?_
  have HK := TW.hide hK
  clear hK
  go_wp2
  refine HK.out _ _ ?_
  clear HK K
  refine wp_seq_k fun K hK => ?_
  have HK := TW.hide hK
  clear hK
  rcases Nat.eq_zero_or_pos i with hi0 | hi0
  · obtain ⟨k1, k2, k3⟩ := HB0.out hi0
    have kby : ((by_ : Nat) : Int) = T.lf := by rw [k2, HLn.out]
    have hfr := HFR.out k3
    rw [kby] at hfr
    have hto := HTO.out k3
    rw [kby] at hto
    have HT2 := TW.hide hto
    have HT1 := TW.hide (HTO1.out k3)
    rw [k1] at HT1
    subst hi0
    subst k3
    clear k1 k2 kby hto
    go_wp2
    refine HK.out _ _ ?_
    clear HK K
    refine wp_seq_k fun K hK => ?_
    have HK := TW.hide hK
    clear hK
    go_wp2
    refine HK.out _ _ ?_
    clear HK K
    refine wp_seq_k fun K hK => ?_
    have HK := TW.hide hK
    clear hK
    go_wp2
    refine HK.out _ _ ?_
    clear HK K
    have G4 := TW.hide (blk_set (i := 2) (u := .int .u64 fr) G3.out)
    have N4 := TW.hide (blk_other (g := g) (i := 2) (u := .int .u64 fr) N1.out (show B + 1 ≠ g by have := BG.out; omega))
    have B4 : Hid (Below B w (V.setCell ⟨g, 2, none⟩ (.int .u64 fr))) := B3.out.setCell (p := ⟨g, 2, none⟩) (by show B ≤ g; have := BG.out; omega) _
    clear c0 c1 c2 c3 c4 c5 c6 c7 c8 s0 s1 s2 s3 s4 s5 z2 z3 hfr
    generalize V.setCell _ _ = V4 at *
    obtain ⟨⟨s0, s1, s2, s3, s4, s5⟩, z2, z3⟩ := cells6f (show V4.heap[g]? = some (.cells #[.int .i64 ((0 : Nat) : Int), .int .u64 at_, .int .u64 fr, .int .u64 0, .bool la, .bool false] 50 (0, 0)) from G4.out)
    cases la with
    | true =>
      have HFT : Hid (tt = n) := HT1.out (by simp)
      clear HT1 HT2
      refine wp_seq_k fun K hK => ?_
      have HK := TW.hide hK
      clear hK
      obtain ⟨X1, hX1⟩ : ∃ X1, IntKind.u64.wrap ((fr : Int) + T.lf) = X1 := ⟨_, rfl⟩
      go_wp2
      refine HK.out _ _ ?_
      clear HK K
      have G5 := TW.hide (blk_set (i := 3) (u := .int .u64 X1) G4.out)
      have N5 := TW.hide (blk_other (g := g) (i := 3) (u := .int .u64 X1) N4.out (show B + 1 ≠ g by have := BG.out; omega))
      have B5 : Hid (Below B w (V4.setCell ⟨g, 3, none⟩ (.int .u64 X1))) := B4.out.setCell (p := ⟨g, 3, none⟩) (by show B ≤ g; have := BG.out; omega) _
      clear s0 s1 s2 s3 s4 s5 z2 z3 hX1
      generalize V4.setCell _ _ = V5 at *
      obtain ⟨⟨s0, s1, s2, s3, s4, s5⟩, z2, z3⟩ := cells6f (show V5.heap[g]? = some (.cells #[.int .i64 ((0 : Nat) : Int), .int .u64 at_, .int .u64 fr, .int .u64 X1, .bool true, .bool false] 50 (0, 0)) from G5.out)
      refine wp_seq_k fun K hK => ?_
      have HK := TW.hide hK
      clear hK
      go_wp2
      refine HK.out _ _ ?_
      clear HK K
      have G6 := TW.hide (blk_set (i := 3) (u := .int .u64 n) G5.out)
      have N6 := TW.hide (blk_other (g := g) (i := 3) (u := .int .u64 n) N5.out (show B + 1 ≠ g by have := BG.out; omega))
      have B6 : Hid (Below B w (V5.setCell ⟨g, 3, none⟩ (.int .u64 n))) := B5.out.setCell (p := ⟨g, 3, none⟩) (by show B ≤ g; have := BG.out; omega) _
      clear s0 s1 s2 s3 s4 s5 z2 z3
      generalize V5.setCell _ _ = V6 at *
      obtain ⟨⟨s0, s1, s2, s3, s4, s5⟩, z2, z3⟩ := cells6f (show V6.heap[g]? = some (.cells #[.int .i64 ((0 : Nat) : Int), .int .u64 at_, .int .u64 fr, .int .u64 n, .bool true, .bool false] 50 (0, 0)) from G6.out)
      go_wp2_with (refine wpList_store_row (by rfl) 50 _ _ (by rfl) (B + 1) #[.int .i64 ((0 : Nat) : Int), .int .u64 at_, .int .u64 fr, .int .u64 n, .bool true, .bool false] (by rfl) (by rfl) 50 _ N6.out (by kernel_rfl) (by rfl) (by simp [Value.oneCell']) ?_)
      refine bodyPost_ret (v := .tuple #[.agg #[.int .i64 ((0 : Nat) : Int), .int .u64 at_, .int .u64 fr, .int .u64 n, .bool true, .bool false], .int .i64 0]) (results_row_tmp (P := Try.prog) Try.results37 _ _ (B + 1) 50 _ (0, 0) _ _ (by rfl) (by rfl) (setRow_heap _ _ _ _ _ _ N6.out) Try.underlying50 rfl (by kernel_rfl)) rfl ?_
      exact ⟨by rw [HFT.out], below_setRow B6.out (by omega)⟩
    | false =>
      have hX1 := HT2.out (by simp)
      clear HT1 HT2
      refine wp_seq_k fun K hK => ?_
      have HK := TW.hide hK
      clear hK
      go_wp2
      refine HK.out _ _ ?_
      clear HK K
      have G5 := TW.hide (blk_set (i := 3) (u := .int .u64 tt) G4.out)
      have N5 := TW.hide (blk_other (g := g) (i := 3) (u := .int .u64 tt) N4.out (show B + 1 ≠ g by have := BG.out; omega))
      have B5 : Hid (Below B w (V4.setCell ⟨g, 3, none⟩ (.int .u64 tt))) := B4.out.setCell (p := ⟨g, 3, none⟩) (by show B ≤ g; have := BG.out; omega) _
      clear s0 s1 s2 s3 s4 s5 z2 z3 hX1
      generalize V4.setCell _ _ = V5 at *
      obtain ⟨⟨s0, s1, s2, s3, s4, s5⟩, z2, z3⟩ := cells6f (show V5.heap[g]? = some (.cells #[.int .i64 ((0 : Nat) : Int), .int .u64 at_, .int .u64 fr, .int .u64 tt, .bool false, .bool false] 50 (0, 0)) from G5.out)
      go_wp2_with (refine wpList_store_row (by rfl) 50 _ _ (by rfl) (B + 1) #[.int .i64 ((0 : Nat) : Int), .int .u64 at_, .int .u64 fr, .int .u64 tt, .bool false, .bool false] (by rfl) (by rfl) 50 _ N5.out (by kernel_rfl) (by rfl) (by simp [Value.oneCell']) ?_)
      refine bodyPost_ret (v := .tuple #[.agg #[.int .i64 ((0 : Nat) : Int), .int .u64 at_, .int .u64 fr, .int .u64 tt, .bool false, .bool false], .int .i64 0]) (results_row_tmp (P := Try.prog) Try.results37 _ _ (B + 1) 50 _ (0, 0) _ _ (by rfl) (by rfl) (setRow_heap _ _ _ _ _ _ N5.out) Try.underlying50 rfl (by kernel_rfl)) rfl ?_
      exact ⟨rfl, below_setRow B5.out (by omega)⟩
  · obtain ⟨k1, k2⟩ := HB1.out hi0
    have kby : ((by_ : Nat) : Int) = T.f := by rw [k2, HFn.out]
    have hi7 : (0 : Int) < (i : Int) := by omega
    have hw1 : IntKind.i64.wrap ((i : Int) - 1) = ((i - 1 : Nat) : Int) := by rw [IntKind.wrap_i64]; omega
    have dp := HCV.out (i - 1) (by omega)
    rw [← k1] at dp
    have hw2 : (0 : Int) ≤ ((i - 1 : Nat) : Int) := by omega
    have hw3 : ((i - 1 : Nat) : Int) < (len : Int) := by omega
    generalize i - 1 = j at *
    clear k1 k2
    cases ro with
    | true =>
      have HFT : Hid (fr = 0 ∧ tt = bl) := ⟨HFR0.out rfl, HTO0.out rfl⟩
      clear kby
      go_wp2
      refine HK.out _ _ ?_
      clear HK K
      have HE := TW.hide (blk_other (g := g) (i := 3) (u := .int .u64 bl) N1.out (show B + 1 ≠ g by have := BG.out; omega))
      go_wp2_with (refine wpList_store_row (by rfl) 50 _ _ (by rfl) (B + 1) #[.int .i64 (i : Int), .int .u64 at_, .int .u64 0, .int .u64 bl, .bool la, .bool true] (by rfl) (by rfl) 50 _ HE.out (by kernel_rfl) (by rfl) (by simp [Value.oneCell']) ?_)
      refine bodyPost_ret (v := .tuple #[.agg #[.int .i64 (i : Int), .int .u64 at_, .int .u64 0, .int .u64 bl, .bool la, .bool true], .int .i64 0]) (results_row_tmp (P := Try.prog) Try.results37 _ _ (B + 1) 50 _ (0, 0) _ _ (by rfl) (by rfl) (setRow_heap _ _ _ _ _ _ HE.out) Try.underlying50 rfl (by kernel_rfl)) rfl ?_
      exact ⟨by rw [HFT.out.1, HFT.out.2]; rfl, below_setRow (B3.out.setCell (p := ⟨g, 3, none⟩) (by show B ≤ g; have := BG.out; omega) _) (by omega)⟩
    | false =>
      have hfr := HFR.out rfl
      rw [kby] at hfr
      have hto := HTO.out rfl
      rw [kby] at hto
      have HT2 := TW.hide hto
      have HT1 := TW.hide (HTO1.out rfl)
      clear kby hto
      go_wp2
      refine HK.out _ _ ?_
      clear HK K
      refine wp_seq_k fun K hK => ?_
      have HK := TW.hide hK
      clear hK
      go_wp2
      refine HK.out _ _ ?_
      clear HK K
      refine wp_seq_k fun K hK => ?_
      have HK := TW.hide hK
      clear hK
      go_wp2
      refine HK.out _ _ ?_
      clear HK K
      have G4 := TW.hide (blk_set (i := 2) (u := .int .u64 fr) G3.out)
      have N4 := TW.hide (blk_other (g := g) (i := 2) (u := .int .u64 fr) N1.out (show B + 1 ≠ g by have := BG.out; omega))
      have B4 : Hid (Below B w (V.setCell ⟨g, 2, none⟩ (.int .u64 fr))) := B3.out.setCell (p := ⟨g, 2, none⟩) (by show B ≤ g; have := BG.out; omega) _
      clear c0 c1 c2 c3 c4 c5 c6 c7 c8 s0 s1 s2 s3 s4 s5 z2 z3 hfr
      generalize V.setCell _ _ = V4 at *
      obtain ⟨⟨s0, s1, s2, s3, s4, s5⟩, z2, z3⟩ := cells6f (show V4.heap[g]? = some (.cells #[.int .i64 (i : Int), .int .u64 at_, .int .u64 fr, .int .u64 0, .bool la, .bool false] 50 (0, 0)) from G4.out)
      cases la with
      | true =>
        have HFT : Hid (tt = bl) := HT1.out (by simp)
        clear HT1 HT2
        refine wp_seq_k fun K hK => ?_
        have HK := TW.hide hK
        clear hK
        obtain ⟨X1, hX1⟩ : ∃ X1, IntKind.u64.wrap ((fr : Int) + T.f) = X1 := ⟨_, rfl⟩
        go_wp2
        refine HK.out _ _ ?_
        clear HK K
        have G5 := TW.hide (blk_set (i := 3) (u := .int .u64 X1) G4.out)
        have N5 := TW.hide (blk_other (g := g) (i := 3) (u := .int .u64 X1) N4.out (show B + 1 ≠ g by have := BG.out; omega))
        have B5 : Hid (Below B w (V4.setCell ⟨g, 3, none⟩ (.int .u64 X1))) := B4.out.setCell (p := ⟨g, 3, none⟩) (by show B ≤ g; have := BG.out; omega) _
        clear s0 s1 s2 s3 s4 s5 z2 z3 hX1
        generalize V4.setCell _ _ = V5 at *
        obtain ⟨⟨s0, s1, s2, s3, s4, s5⟩, z2, z3⟩ := cells6f (show V5.heap[g]? = some (.cells #[.int .i64 (i : Int), .int .u64 at_, .int .u64 fr, .int .u64 X1, .bool true, .bool false] 50 (0, 0)) from G5.out)
        refine wp_seq_k fun K hK => ?_
        have HK := TW.hide hK
        clear hK
        go_wp2
        refine HK.out _ _ ?_
        clear HK K
        have G6 := TW.hide (blk_set (i := 3) (u := .int .u64 bl) G5.out)
        have N6 := TW.hide (blk_other (g := g) (i := 3) (u := .int .u64 bl) N5.out (show B + 1 ≠ g by have := BG.out; omega))
        have B6 : Hid (Below B w (V5.setCell ⟨g, 3, none⟩ (.int .u64 bl))) := B5.out.setCell (p := ⟨g, 3, none⟩) (by show B ≤ g; have := BG.out; omega) _
        clear s0 s1 s2 s3 s4 s5 z2 z3
        generalize V5.setCell _ _ = V6 at *
        obtain ⟨⟨s0, s1, s2, s3, s4, s5⟩, z2, z3⟩ := cells6f (show V6.heap[g]? = some (.cells #[.int .i64 (i : Int), .int .u64 at_, .int .u64 fr, .int .u64 bl, .bool true, .bool false] 50 (0, 0)) from G6.out)
        go_wp2_with (refine wpList_store_row (by rfl) 50 _ _ (by rfl) (B + 1) #[.int .i64 (i : Int), .int .u64 at_, .int .u64 fr, .int .u64 bl, .bool true, .bool false] (by rfl) (by rfl) 50 _ N6.out (by kernel_rfl) (by rfl) (by simp [Value.oneCell']) ?_)
        refine bodyPost_ret (v := .tuple #[.agg #[.int .i64 (i : Int), .int .u64 at_, .int .u64 fr, .int .u64 bl, .bool true, .bool false], .int .i64 0]) (results_row_tmp (P := Try.prog) Try.results37 _ _ (B + 1) 50 _ (0, 0) _ _ (by rfl) (by rfl) (setRow_heap _ _ _ _ _ _ N6.out) Try.underlying50 rfl (by kernel_rfl)) rfl ?_
        exact ⟨by rw [HFT.out], below_setRow B6.out (by omega)⟩
      | false =>
        have hX1 := HT2.out (by simp)
        clear HT1 HT2
        refine wp_seq_k fun K hK => ?_
        have HK := TW.hide hK
        clear hK
        go_wp2
        refine HK.out _ _ ?_
        clear HK K
        have G5 := TW.hide (blk_set (i := 3) (u := .int .u64 tt) G4.out)
        have N5 := TW.hide (blk_other (g := g) (i := 3) (u := .int .u64 tt) N4.out (show B + 1 ≠ g by have := BG.out; omega))
        have B5 : Hid (Below B w (V4.setCell ⟨g, 3, none⟩ (.int .u64 tt))) := B4.out.setCell (p := ⟨g, 3, none⟩) (by show B ≤ g; have := BG.out; omega) _
        clear s0 s1 s2 s3 s4 s5 z2 z3 hX1
        generalize V4.setCell _ _ = V5 at *
        obtain ⟨⟨s0, s1, s2, s3, s4, s5⟩, z2, z3⟩ := cells6f (show V5.heap[g]? = some (.cells #[.int .i64 (i : Int), .int .u64 at_, .int .u64 fr, .int .u64 tt, .bool false, .bool false] 50 (0, 0)) from G5.out)
        go_wp2_with (refine wpList_store_row (by rfl) 50 _ _ (by rfl) (B + 1) #[.int .i64 (i : Int), .int .u64 at_, .int .u64 fr, .int .u64 tt, .bool false, .bool false] (by rfl) (by rfl) 50 _ N5.out (by kernel_rfl) (by rfl) (by simp [Value.oneCell']) ?_)
        refine bodyPost_ret (v := .tuple #[.agg #[.int .i64 (i : Int), .int .u64 at_, .int .u64 fr, .int .u64 tt, .bool false, .bool false], .int .i64 0]) (results_row_tmp (P := Try.prog) Try.results37 _ _ (B + 1) 50 _ (0, 0) _ _ (by rfl) (by rfl) (setRow_heap _ _ _ _ _ _ N5.out) Try.underlying50 rfl (by kernel_rfl)) rfl ?_
        exact ⟨rfl, below_setRow B5.out (by omega)⟩
end LW
end Go.Proofs.Ytcpegipojkbcoaa
