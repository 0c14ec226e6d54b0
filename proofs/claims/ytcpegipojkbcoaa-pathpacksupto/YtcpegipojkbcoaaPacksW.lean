/-
  The law on packing: with what the program's Pack, Unpack and Size give.
-/
import Derived.Test.YtcpegipojkbcoaaRUnpU
import Derived.Test.YtcpegipojkbcoaaSizesW
namespace Go.Proofs.Ytcpegipojkbcoaa
open Go.RowKit
set_option linter.unusedVariables false
set_option linter.unusedSimpArgs false
namespace LW
open Words
theorem upS_SB {T : Tr} (hT : 0 ≤ T.lf ∧ T.lf < 4294967296) {zs : List Int} (hz : Byt zs) (hl : zs.length ≤ 1048576) : SB (upS T zs) := by
  unfold upS
  split
  · rename_i he
    have hlen : ∀ F : Nat → Stp, ((List.range ((roL T (tt zs)).length - 1)).map F).length = (roL T (tt zs)).length - 1 := fun F => by simp
    have hge : ∀ (F : Nat → Stp) i, ((List.range ((roL T (tt zs)).length - 1)).map F).getD i ([], []) = if i < (roL T (tt zs)).length - 1 then F i else ([], []) := fun F i => by
      by_cases h : i < (roL T (tt zs)).length - 1
      · simp [List.getD_eq_getElem?_getD, h]
      · simp [List.getD_eq_getElem?_getD, h]
    have m0 : tt zs < 18446744073709551616 := (ld_num zs hz 0).2
    unfold upE at he
    split at he
    · rename_i h; exact absurd he h
    split at he
    · cases he
    split at he
    · rename_i h; exact absurd he h
    split at he
    · cases he
    split at he
    · cases he
    rename_i hv h16 hw hh hm
    have hv : vd T = 0 := by simpa using hv
    have hw : waE T (tt zs) (ll zs) = 0 := by simpa using hw
    have hin := vd_inn hv
    have hlE : lvE T (tt zs) = 0 ∧ ll zs < (roL T (tt zs)).getD 0 0 := by
      rcases waE_cases T (tt zs) (ll zs) with ⟨_, h1, h2⟩ | ⟨h0, _⟩
      · exact ⟨h1, h2⟩
      · exact absurd hw h0
    have hR := rwsT hT m0 hlE.1
    have hse := sz_eq hT m0 hw
    have hsz : szF T (tt zs) (ll zs) ≤ 1048576 := Nat.le_trans (Nat.le_of_not_lt hh) (Nat.le_trans (Nat.div_le_self _ _) (by omega))
    refine ⟨by rw [hlen]; have := hR.most; omega, fun i => ?_⟩
    rw [hge]
    split
    · rename_i hi
      have h1 := szN_succ (lvE_ok hlE.1) hR hlE.2 i (by omega)
      have h2 := szN_mono T (tt zs) (roL T (tt zs)) (ll zs) (i + 1) ((roL T (tt zs)).length - 1 - (i + 1))
      rw [show i + 1 + ((roL T (tt zs)).length - 1 - (i + 1)) = (roL T (tt zs)).length - 1 by omega] at h2
      have hd : ∀ at_ n r, ((dgL zs at_ T.inn.toNat n).getD r []).length ≤ 1048576 := fun at_ n r => by
        rcases Nat.lt_or_ge r n with h | h
        · rw [dgL_get zs at_ _ n r h, dg, List.length_take]
          omega
        · rw [List.getD_eq_getElem?_getD, List.getElem?_eq_none (by rw [dgL_len]; exact h)]
          simp
      unfold upT
      exact ⟨⟨by rw [dgL_len]; omega, fun r => hd _ _ r⟩, ⟨by rw [dgL_len]; omega, fun r => hd _ _ r⟩⟩
    · exact ⟨⟨by simp, fun r => by simp⟩, ⟨by simp, fun r => by simp⟩⟩
  · exact ⟨by simp, fun i => ⟨⟨by simp, fun r => by simp⟩, ⟨by simp, fun r => by simp⟩⟩⟩
theorem pkL_len (T : Tr) (t l : Nat) (ss : List Stp) (h : (flA ss).length ≤ 1048576) : (pkL T t l ss).length ≤ maxLen := by
  unfold pkL
  split
  · rw [List.length_append, List.length_append, un_length, un_length]
    unfold maxLen
    omega
  · simp
/-- What Pack is asked to hand back. -/
def PackR (T : Tr) (t l : Nat) (ss : List Stp) (w : World) : Ending → World → Prop := fun e w' => ∃ a c, e = .returned (.tuple #[.slice a (pkL T t l ss).length c, .int .i64 (pkE T t l ss)]) ∧ Row w' a (pkL T t l ss) ∧ Below w.heap.size w w'
def PPack : Prop := ∀ (T : Tr), (0 ≤ T.lf ∧ T.lf < 4294967296) → ∀ (t l : Nat), t < 18446744073709551616 → l < 18446744073709551616 → ∀ (a : Option Addr) (c : Nat) (ss : List Stp) (w : World), Sts w a ss → SB ss → (flA ss).length ≤ 1048576 → Calls Try.prog 8 #[.agg (trC T), .agg (paC t l a ss.length c)] w (PackR T t l ss w)
def PUnpack : Prop := ∀ (T : Tr), (0 ≤ T.lf ∧ T.lf < 4294967296) → ∀ (a : Option Addr) (cap : Nat) (zs : List Int) (w : World), Byt zs → Row w a zs → zs.length ≤ 1048576 → zs.length ≤ cap → Calls Try.prog 10 #[.agg (trC T), .slice a zs.length cap] w (UnpP T zs w)
theorem rpackR (T : Tr) (hT : 0 ≤ T.lf ∧ T.lf < 4294967296) (t l : Nat) (ht : t < 18446744073709551616) (hl : l < 18446744073709551616) (a : Option Addr) (c : Nat) (ss : List Stp) (w : World) (hS : Sts w a ss) (hB : SB ss) (hF : (flA ss).length ≤ 1048576) : Calls Try.prog 9 #[.agg (trC T), .agg (paC t l a ss.length c)] w (PackR T t l ss w) := by
  refine (rpack_ T hT t l ht hl a c ss w hS hB hF).mono ?_
  rintro e w' ⟨v, rfl, ho, hb⟩
  obtain ⟨a', c', rfl, hr, _⟩ := row_of_own ho
  exact ⟨a', c', rfl, hr, hb⟩
set_option maxRecDepth 100000 in
set_option maxHeartbeats 2000000 in
theorem packsW (HPS : PSize) (HPP : PPack) (HPU : PUnpack) (T : Tr) (t l : Nat) (a : Option Addr) (c : Nat) (ss : List Stp) (b : Option Addr) (cap : Nat) (zs : List Int) (w : World) (hT : 0 ≤ T.lf ∧ T.lf < 4294967296) (ht : t < 18446744073709551616) (hl : l < 18446744073709551616) (hS : Sts w a ss) (hB : SB ss) (hF : (flA ss).length ≤ 1048576) (hz : Byt zs) (hr : Row w b zs) (hzl : zs.length ≤ 1048576) (hcap : zs.length ≤ cap) :
    Calls Try.prog 4 #[.agg (trC T), .agg (paC t l a ss.length c), .slice b zs.length cap] w fun e w' => e = .returned (.bool true) ∧ Below w.heap.size w w' := by
  have H1 : Hid (∀ W, Below w.heap.size w W → Calls Try.prog 8 #[.agg (trC T), .agg (paC t l a ss.length c)] W (PackR T t l ss W)) := fun W hW => HPP T hT t l ht hl a c ss W (hS.below hW) hB hF
  have H2 : Hid (∀ W, Below w.heap.size w W → Calls Try.prog 9 #[.agg (trC T), .agg (paC t l a ss.length c)] W (PackR T t l ss W)) := fun W hW => rpackR T hT t l ht hl a c ss W (hS.below hW) hB hF
  have H3 : Hid (∀ W, Below w.heap.size w W → Calls Try.prog 10 #[.agg (trC T), .slice b zs.length cap] W (UnpP T zs W)) := fun W hW => HPU T hT b cap zs W hz (hr.below hW) hzl hcap
  have H4 : Hid (∀ W, Below w.heap.size w W → Calls Try.prog 11 #[.agg (trC T), .slice b zs.length cap] W (UnpP T zs W)) := fun W hW => runpack_ T hT b cap zs W hz (hr.below hW) hzl
  have HAL : Hid (∀ (a a' : Option Addr) (c c' : Nat) (W : World), Sts W a (upS T zs) → Sts W a' (upS T zs) → Calls Try.prog 13 #[.agg (paC (upt T zs) (upl T zs) a (upS T zs).length c), .agg (paC (upt T zs) (upl T zs) a' (upS T zs).length c')] W fun e w' => e = .returned (.bool true) ∧ Below W.heap.size W w') := fun a a' c c' W h h' => alike11 _ _ a a' c c' _ W h h' (upS_SB hT hz hzl)
  have HSM : Hid (∀ (a a' : Option Addr) (c c' : Nat) (W : World), Row W a (pkL T t l ss) → Row W a' (pkL T t l ss) → Calls Try.prog 12 #[.slice a (pkL T t l ss).length c, .slice a' (pkL T t l ss).length c'] W fun e w' => e = .returned (.bool true) ∧ ∃ q, w' = W.drewN q) := fun a a' c c' W h h' => same11 a a' c c' _ W h h' (pkL_len T t l ss hF)
  have HA := TW.hide (fun W => awake11 HPS W)
  unfold PackR at H1 H2
  unfold UnpP at H3 H4
  clear hS hB hF hz hr hzl hcap HPS HPP HPU hT ht hl
  generalize pkE T t l ss = E1 at *
  generalize pkL T t l ss = P1 at *
  generalize upE T zs = E2 at *
  generalize upt T zs = tu at *
  generalize upl T zs = lu at *
  generalize upS T zs = S2 at *
  obtain ⟨n2, hn2⟩ : ∃ n2, S2.length = n2 := ⟨_, rfl⟩
  obtain ⟨n1, hn1⟩ : ∃ n1, P1.length = n1 := ⟨_, rfl⟩
  rw [hn2] at H3 H4 HAL
  rw [hn1] at H1 H2 HSM
  clear hn1 hn2
  generalize ss.length = n at *
  generalize zs.length = zl at *
  unfold trC paC at *
  have n0 := heap_alloc_new w (.cells #[.int .i64 T.k, .int .i64 T.d, .int .i64 T.f, .int .i64 T.dp, .int .u32 T.lf, .int .i64 T.inn, .slice T.ka T.kl T.kc, .slice T.sa T.sl T.sc, .slice T.pa T.pl T.pc] 26)
  have hb0 := (Below.refl w.heap.size w).alloc (Nat.le_refl _) (.cells #[.int .i64 T.k, .int .i64 T.d, .int .i64 T.f, .int .i64 T.dp, .int .u32 T.lf, .int .i64 T.inn, .slice T.ka T.kl T.kc, .slice T.sa T.sl T.sc, .slice T.pa T.pl T.pc] 26)
  have n1 := heap_alloc_new (w.alloc (.cells #[.int .i64 T.k, .int .i64 T.d, .int .i64 T.f, .int .i64 T.dp, .int .u32 T.lf, .int .i64 T.inn, .slice T.ka T.kl T.kc, .slice T.sa T.sl T.sc, .slice T.pa T.pl T.pc] 26)) (.cells #[.int .u64 t, .int .u64 l, .slice a n c] 37)
  rw [show (w.alloc (.cells #[.int .i64 T.k, .int .i64 T.d, .int .i64 T.f, .int .i64 T.dp, .int .u32 T.lf, .int .i64 T.inn, .slice T.ka T.kl T.kc, .slice T.sa T.sl T.sc, .slice T.pa T.pl T.pc] 26)).heap.size = w.heap.size + 1 by simp] at n1
  have n0 := blk_alloc (o' := .cells #[.int .u64 t, .int .u64 l, .slice a n c] 37) n0
  have hb1 := hb0.alloc hb0.size (.cells #[.int .u64 t, .int .u64 l, .slice a n c] 37)
  have N0 := TW.hide n0
  have N1 := TW.hide n1
  have B0 := TW.hide hb1
  clear n0 n1 hb0 hb1
  go_enter Try.func4, Try.ntmps4
  refine wp_seq_k fun K hK => ?_
  have HK := TW.hide hK
  clear hK
  go_wp2_with fail
  refine HK.out _ _ ?_
  clear HK K
  generalize (w.alloc _).alloc _ = X at *
  obtain ⟨c0, c1, c2, c3, c4, c5, c6, c7, c8⟩ := cells9 N0.out
  obtain ⟨d0, d1, d2⟩ := cellsP3 N1.out
  refine wp_seq_k fun K hK => ?_
  have HK := TW.hide hK
  clear hK
  go_wp2_with fail
  refine (H1.out _ B0.out).mono ?_
  rintro e1 w1 ⟨a1, k1, rfl, hr1, hb⟩
  clear c0 c1 c2 c3 c4 c5 c6 c7 c8 d0 d1 d2 H1
  have N0 := TW.hide (blk_keep N0.out hb)
  have N1 := TW.hide (blk_keep N1.out hb)
  have B0 : Hid (Below w.heap.size w w1) := B0.out.trans (hb.mono B0.out.size)
  have R1 := TW.hide hr1
  clear hb hr1
  go_wp2
  refine HK.out _ _ ?_
  clear HK K
  obtain ⟨c0, c1, c2, c3, c4, c5, c6, c7, c8⟩ := cells9 N0.out
  obtain ⟨d0, d1, d2⟩ := cellsP3 N1.out
  refine wp_seq_k fun K hK => ?_
  have HK := TW.hide hK
  clear hK
  go_wp2_with fail
  refine (H2.out _ B0.out).mono ?_
  rintro e2 w2 ⟨a2, k2, rfl, hr2, hb⟩
  clear c0 c1 c2 c3 c4 c5 c6 c7 c8 d0 d1 d2 H2
  have N0 := TW.hide (blk_keep N0.out hb)
  have B0 : Hid (Below w.heap.size w w2) := B0.out.trans (hb.mono B0.out.size)
  have R1 := TW.hide (R1.out.below hb)
  have R2 := TW.hide hr2
  clear hb hr2
  go_wp2
  refine HK.out _ _ ?_
  clear HK K
  obtain ⟨c0, c1, c2, c3, c4, c5, c6, c7, c8⟩ := cells9 N0.out
  refine wp_seq_k fun K hK => ?_
  have HK := TW.hide hK
  clear hK
  go_wp2_with fail
  refine (H3.out _ B0.out).mono ?_
  rintro e3 w3 ⟨a3, k3, rfl, hs3, hb⟩
  clear c0 c1 c2 c3 c4 c5 c6 c7 c8 H3
  have hA : Below w3.heap.size w3 (w3.alloc (.cells #[.int .u64 tu, .int .u64 lu, .slice a3 n2 k3] 37)) := (Below.refl _ _).alloc (Nat.le_refl _) _
  have hb' := hb.trans (hA.mono hb.size)
  have N0 := TW.hide (blk_keep N0.out hb')
  have B0 : Hid (Below w.heap.size w (w3.alloc (.cells #[.int .u64 tu, .int .u64 lu, .slice a3 n2 k3] 37))) := B0.out.trans (hb'.mono B0.out.size)
  have R1 := TW.hide (R1.out.below hb')
  have R2 := TW.hide (R2.out.below hb')
  have S3 := TW.hide (hs3.below hA)
  have G3 := TW.hide (heap_alloc_new w3 (.cells #[.int .u64 tu, .int .u64 lu, .slice a3 n2 k3] 37))
  clear hb hs3 hA hb'
  go_wp2
  refine HK.out _ _ ?_
  clear HK K
  generalize w3.alloc _ = X3 at *
  generalize w3.heap.size = g3 at *
  obtain ⟨c0, c1, c2, c3, c4, c5, c6, c7, c8⟩ := cells9 N0.out
  refine wp_seq_k fun K hK => ?_
  have HK := TW.hide hK
  clear hK
  go_wp2_with fail
  refine (H4.out _ B0.out).mono ?_
  rintro e4 w4 ⟨a4, k4, rfl, hs4, hb⟩
  clear c0 c1 c2 c3 c4 c5 c6 c7 c8 H4
  have hA : Below w4.heap.size w4 (w4.alloc (.cells #[.int .u64 tu, .int .u64 lu, .slice a4 n2 k4] 37)) := (Below.refl _ _).alloc (Nat.le_refl _) _
  have hb' := hb.trans (hA.mono hb.size)
  have N0 := TW.hide (blk_keep N0.out hb')
  have B0 : Hid (Below w.heap.size w (w4.alloc (.cells #[.int .u64 tu, .int .u64 lu, .slice a4 n2 k4] 37))) := B0.out.trans (hb'.mono B0.out.size)
  have R1 := TW.hide (R1.out.below hb')
  have R2 := TW.hide (R2.out.below hb')
  have S3 := TW.hide (S3.out.below hb')
  have G3 := TW.hide (blk_keep G3.out hb')
  have S4 := TW.hide (hs4.below hA)
  have G4 := TW.hide (heap_alloc_new w4 (.cells #[.int .u64 tu, .int .u64 lu, .slice a4 n2 k4] 37))
  clear hb hs4 hA hb'
  go_wp2
  refine HK.out _ _ ?_
  clear HK K
  generalize w4.alloc _ = X4 at *
  generalize w4.heap.size = g4 at *
  go_wp2_with fail
  refine (HSM.out _ _ _ _ _ R1.out R2.out).mono ?_
  rintro e5 w5 ⟨rfl, q, rfl⟩
  obtain ⟨d0, d1, d2⟩ := cellsP3 (show (X4.drewN q).heap[g3]? = _ from G3.out)
  obtain ⟨f0, f1, f2⟩ := cellsP3 (show (X4.drewN q).heap[g4]? = _ from G4.out)
  have B5 : Hid (Below w.heap.size w (X4.drewN q)) := below_drewN B0.out q
  have S3' := TW.hide (S3.out.drewN q)
  have S4' := TW.hide (S4.out.drewN q)
  generalize X4.drewN q = X5 at *
  go_wp2_with fail
  refine (HAL.out _ _ _ _ _ S3'.out S4'.out).mono ?_
  rintro e6 w6 ⟨rfl, hb6⟩
  have B6 : Hid (Below w.heap.size w w6) := B5.out.trans (hb6.mono B5.out.size)
  clear hb6 d0 d1 d2 f0 f1 f2
  go_wp2_with fail
  refine (HA.out _).mono ?_
  rintro e7 w7 ⟨rfl, hb7⟩
  have B7 : Hid (Below w.heap.size w w7) := B6.out.trans (hb7.mono B6.out.size)
  clear hb7
  go_wp2
  go_ret
  exact ⟨rfl, B7.out⟩
end LW
end Go.Proofs.Ytcpegipojkbcoaa
