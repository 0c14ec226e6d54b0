/-
  What way of the document gives: the nodes from a leaf up to the root.
-/
import Derived.Test.YtcpegipojkbcoaaWayL
import Derived.Test.YtcpegipojkbcoaaRParen
namespace Go.Proofs.Ytcpegipojkbcoaa
open Go.RowKit
set_option linter.unusedVariables false
set_option linter.unusedSimpArgs false
namespace LW
open Words
theorem ow_block {w : World} {B n s : Nat} {t : TypeId} {v : Value} {xs : List Value} (h : w.ownsRow B t s v n xs) : ∀ k, v.ownBlock = some k → B ≤ k := by
  intro k hk
  rcases h.2 with ⟨rfl, _⟩ | ⟨g, cap, cur, rfl, hg, _⟩
  · simp [Value.ownBlock] at hk
  · simp [Value.ownBlock] at hk; omega
theorem ow_base {w : World} {B B' n s : Nat} {t : TypeId} {v : Value} {xs : List Value} (h : w.ownsRow B t s v n xs) (hb : B' ≤ B) : w.ownsRow B' t s v n xs := by
  rcases h.2 with ⟨rfl, h0⟩ | ⟨g, cap, cur, rfl, hg, hh, hn, hm, hc, ht⟩
  · exact ⟨h.1, .inl ⟨rfl, h0⟩⟩
  · exact ⟨h.1, .inr ⟨g, cap, cur, rfl, by omega, hh, hn, hm, hc, ht⟩⟩
theorem ow_below {w w' : World} {B n s : Nat} {t : TypeId} {v : Value} {xs : List Value} (h : w.ownsRow B t s v n xs) (hb : Below w.heap.size w w') : w'.ownsRow B t s v n xs := by
  rcases h.2 with ⟨rfl, h0⟩ | ⟨g, cap, cur, rfl, hg, hh, hn, hm, hc, ht⟩
  · exact ⟨h.1, .inl ⟨rfl, h0⟩⟩
  · exact ⟨h.1, .inr ⟨g, cap, cur, rfl, hg, blk_keep hh hb, hn, hm, hc, ht⟩⟩
theorem ow_other {w : World} {B n s p : Nat} {t : TypeId} {v : Value} {xs : List Value} {cs : Array Value} (h : w.ownsRow B t s v n xs) (hp : p < B) : (w.setRow p cs).ownsRow B t s v n xs := by
  rcases h.2 with ⟨rfl, h0⟩ | ⟨g, cap, cur, rfl, hg, hh, hn, hm, hc, ht⟩
  · exact ⟨h.1, .inl ⟨rfl, h0⟩⟩
  · exact ⟨h.1, .inr ⟨g, cap, cur, rfl, hg, by rw [setRow_other _ _ _ _ (by omega)]; exact hh, hn, hm, hc, ht⟩⟩
theorem ow_grown {w w' : World} {row : Option Nat} {b : Nat} {o : Obj} (h : w.heap[b]? = some o) (hg : w.grownBy w' row) (hne : row ≠ some b) : w'.heap[b]? = some o := by
  rw [hg.block b (blk_lt h) (Ne.symm hne)]; exact h
theorem cells_six_new (w : World) (t : TypeId) {a b c d e f : Value} : ∀ j u, [a, b, c, d, e, f][j]? = some u → (w.alloc (.cells #[a, b, c, d, e, f] t)).cell? ((⟨w.heap.size, 0, none⟩ : Addr).add j) = some u := by
  intro j u hj
  rw [Addr.add_mid, Nat.zero_add]
  exact blk_cell (heap_alloc_new w (.cells #[a, b, c, d, e, f] t)) (by simpa using hj)
def slen : Value → Nat
  | .slice _ n _ => n
  | _ => 0
theorem spotinfo : (Try.prog.info? 50).map (fun i => (i.zero, i.size, i.bytes)) = some (some (.agg #[.int .i64 0, .int .u64 0, .int .u64 0, .int .u64 0, .bool false, .bool false]), 6, 40) := by kernel_rfl
set_option maxRecDepth 100000 in
set_option maxHeartbeats 2000000 in
theorem rwayE (T : Tr) (hT : 0 ≤ T.lf ∧ T.lf < 4294967296) (n : Nat) (hn : n < 18446744073709551616) (lf : Nat) (E : Int) (hE : E ≠ 0) (H : ∀ W, Calls Try.prog 37 #[.agg (trC T), .int .u64 n, .int .i64 0, .int .u64 lf] W fun e w' => e = .returned (.tuple #[.agg (spC 0 0 0 0 false false), .int .i64 E]) ∧ Below W.heap.size W w') (w : World) : Calls Try.prog 16 #[.agg (trC T), .int .u64 n, .int .u64 lf] w fun e w' => e = .returned (.tuple #[.slice none 0 0, .int .i64 E]) ∧ Below w.heap.size w w' := by
  have HL := TW.hide H
  clear H
  rw [sp0] at HL
  unfold trC at *
  have n0 := heap_alloc_new w (.cells #[.int .i64 T.k, .int .i64 T.d, .int .i64 T.f, .int .i64 T.dp, .int .u32 T.lf, .int .i64 T.inn, .slice T.ka T.kl T.kc, .slice T.sa T.sl T.sc, .slice T.pa T.pl T.pc] 26)
  have hb0 := (Below.refl w.heap.size w).alloc (Nat.le_refl _) (.cells #[.int .i64 T.k, .int .i64 T.d, .int .i64 T.f, .int .i64 T.dp, .int .u32 T.lf, .int .i64 T.inn, .slice T.ka T.kl T.kc, .slice T.sa T.sl T.sc, .slice T.pa T.pl T.pc] 26)
  have HB0 := TW.hide hb0
  have HN0 := TW.hide n0
  clear n0 hb0
  go_enter Try.func16, Try.ntmps16
  refine wp_seq_k fun K hK => ?_
  have HK := TW.hide hK
  clear hK
  go_wp2_with fail
  refine HK.out _ _ ?_
  clear HK K
  generalize w.alloc _ = X at *
  obtain ⟨c0, c1, c2, c3, c4, c5, c6, c7, c8⟩ := cells9 HN0.out
  refine wp_seq_k fun K hK => ?_
  have HK := TW.hide hK
  clear hK
  go_wp2
  refine HK.out _ _ ?_
  clear HK K
  refine wp_seq_k fun K hK => ?_
  have HK := TW.hide hK
  clear hK
  go_wp2_with fail
  refine (HL.out _).mono ?_
  rintro e1 w1 ⟨rfl, hb⟩
  clear c0 c1 c2 c3 c4 c5 c6 c7 c8
  have HB1 : Hid (Below w.heap.size w (w1.alloc (.cells #[.int .i64 0, .int .u64 0, .int .u64 0, .int .u64 0, .bool false, .bool false] 50))) := (HB0.out.trans (hb.mono HB0.out.size)).alloc (by have := (HB0.out.trans (hb.mono HB0.out.size)).size; omega) _
  have G1 := TW.hide (heap_alloc_new w1 (.cells #[.int .i64 0, .int .u64 0, .int .u64 0, .int .u64 0, .bool false, .bool false] 50))
  clear HN0 HB0 hb
  go_wp2
  refine HK.out _ _ ?_
  clear HK K
  generalize w1.alloc _ = V at *
  generalize w1.heap.size = g at *
  have hE' : (E != 0) = true := by simp [hE]
  go_wp2
  go_ret2
  exact ⟨rfl, HB1.out⟩
set_option maxRecDepth 100000 in
set_option maxHeartbeats 2000000 in
theorem rwayOk (T : Tr) (hT : 0 ≤ T.lf ∧ T.lf < 4294967296) (n : Nat) (hn : n < 18446744073709551616) (R : List Nat) (lf len : Nat) (hlen : R.length = len) (h255 : len ≤ 255) (htwo : 2 ≤ len)
    (HS : ∀ i, i < len → ∀ W, Calls Try.prog 37 #[.agg (trC T), .int .u64 n, .int .i64 (i : Int), .int .u64 (aw T R lf i)] W fun e w' => e = .returned (.tuple #[.agg (waS T n R lf i), .int .i64 0]) ∧ Below W.heap.size W w')
    (HP : ∀ i, i + 1 < len → ∀ W, Calls Try.prog 38 #[.agg (trC T), .int .u64 n, .int .i64 (i : Int), .int .u64 (aw T R lf i)] W fun e w' => e = .returned (.tuple #[.int .u64 (aw T R lf (i + 1)), .int .i64 0]) ∧ Below W.heap.size W w') (w : World) :
    Calls Try.prog 16 #[.agg (trC T), .int .u64 n, .int .u64 lf] w fun e w' => ∃ v, e = .returned (.tuple #[v, .int .i64 0]) ∧ w'.ownsRow w.heap.size 50 6 v len (waC T n R lf len) ∧ Below w.heap.size w w' := by
  have HS1 := TW.hide HS
  have HP1 := TW.hide HP
  clear HS HP
  have HS0 := TW.hide (HS1.out 0 (by omega))
  have hr0 : rtB R ((0 : Nat) : Int) = false := by unfold rtB; rw [Int.toNat_natCast, hlen]; simp; omega
  have hW1 : waC T n R lf 1 = (waS T n R lf 0).toList := rfl
  have HW1 := TW.hide hW1
  have HW : Hid (∀ i, waC T n R lf (i + 1 + 1) = waC T n R lf (i + 1) ++ (waS T n R lf (i + 1)).toList) := fun i => rfl
  clear hW1
  have HRT : Hid (∀ i : Nat, rtB R (i : Int) = decide (i + 1 = len)) := fun i => by unfold rtB; rw [Int.toNat_natCast, hlen]
  obtain ⟨i0, hi, hz0, hz1, hz2⟩ := info_parts spotinfo
  clear hlen
  generalize hA : waC T n R lf = WC at *
  generalize hS : waS T n R lf = WS at *
  have HWS : Hid (∀ i : Nat, ∃ fr to la, WS i = #[.int .i64 (i : Int), .int .u64 (aw T R lf i), .int .u64 fr, .int .u64 to, .bool la, .bool (rtB R (i : Int))]) := fun i => ⟨_, _, _, by rw [← hS]; rfl⟩
  have ha0 : aw T R lf 0 = lf := rfl
  generalize aw T R lf = AW at *
  clear hA hS
  obtain ⟨fr, to, la, e0⟩ := HWS.out 0
  rw [e0] at HS0 HW1
  rw [ha0, hr0] at HS0 HW1
  have HR0 := TW.hide hr0
  clear hr0
  unfold trC at *
  have n0 := heap_alloc_new w (.cells #[.int .i64 T.k, .int .i64 T.d, .int .i64 T.f, .int .i64 T.dp, .int .u32 T.lf, .int .i64 T.inn, .slice T.ka T.kl T.kc, .slice T.sa T.sl T.sc, .slice T.pa T.pl T.pc] 26)
  have hb0 := (Below.refl w.heap.size w).alloc (Nat.le_refl _) (.cells #[.int .i64 T.k, .int .i64 T.d, .int .i64 T.f, .int .i64 T.dp, .int .u32 T.lf, .int .i64 T.inn, .slice T.ka T.kl T.kc, .slice T.sa T.sl T.sc, .slice T.pa T.pl T.pc] 26)
  have HB0 := TW.hide hb0
  have HN0 := TW.hide n0
  clear n0 hb0
  go_enter Try.func16, Try.ntmps16
  refine wp_seq_k fun K hK => ?_
  have HK := TW.hide hK
  clear hK
  go_wp2_with fail
  refine HK.out _ _ ?_
  clear HK K
  generalize w.alloc _ = X at *
  obtain ⟨c0, c1, c2, c3, c4, c5, c6, c7, c8⟩ := cells9 HN0.out
  refine wp_seq_k fun K hK => ?_
  have HK := TW.hide hK
  clear hK
  go_wp2
  refine HK.out _ _ ?_
  clear HK K
  refine wp_seq_k fun K hK => ?_
  have HK := TW.hide hK
  clear hK
  go_wp2_with fail
  refine (HS0.out _).mono ?_
  rintro e1 w1 ⟨rfl, hb⟩
  clear c0 c1 c2 c3 c4 c5 c6 c7 c8
  have HN1 := TW.hide (blk_alloc (o' := .cells #[.int .i64 ((0 : Nat) : Int), .int .u64 lf, .int .u64 fr, .int .u64 to, .bool la, .bool false] 50) (blk_keep HN0.out hb))
  have HB1 : Hid (Below w.heap.size w (w1.alloc (.cells #[.int .i64 ((0 : Nat) : Int), .int .u64 lf, .int .u64 fr, .int .u64 to, .bool la, .bool false] 50))) := (HB0.out.trans (hb.mono HB0.out.size)).alloc (by have := (HB0.out.trans (hb.mono HB0.out.size)).size; omega) _
  have G1 := TW.hide (heap_alloc_new w1 (.cells #[.int .i64 ((0 : Nat) : Int), .int .u64 lf, .int .u64 fr, .int .u64 to, .bool la, .bool false] 50))
  have HG : Hid (w.heap.size < w1.heap.size) := Nat.lt_of_lt_of_le (blk_lt HN0.out) hb.size
  clear HN0 HB0 hb HS0
  go_wp2
  refine HK.out _ _ ?_
  clear HK K
  refine wp_seq_k fun K hK => ?_
  have HK := TW.hide hK
  clear hK
  have hgs : (w1.alloc (.cells #[.int .i64 ((0 : Nat) : Int), .int .u64 lf, .int .u64 fr, .int .u64 to, .bool la, .bool false] 50)).heap.size = w1.heap.size + 1 := by simp
  have HGS := TW.hide hgs
  clear hgs
  generalize w1.alloc _ = V at *
  generalize w1.heap.size = g at *
  go_wp2
  refine HK.out _ _ ?_
  clear HK K
  refine wp_seq_k fun K hK => ?_
  have HK := TW.hide hK
  clear hK
  obtain ⟨⟨s0, s1, s2, s3, s4, s5⟩, z2, z3⟩ := cells6f G1.out
  have o0 : V.ownsRow (g + 1) 50 6 (.slice none 0 0) 0 [] := ⟨rfl, .inl ⟨rfl, rfl⟩⟩
  have HO := TW.hide o0
  clear o0
  go_wp2_with (at_builtin; refine wpList_append_own _ rfl _ _ 57 rfl (g + 1) 50 i0 (.agg #[.int .i64 0, .int .u64 0, .int .u64 0, .int .u64 0, .bool false, .bool false]) 6 40 Try.underlying57 hi hz0 hz1 hz2 rfl (by decide) _ 0 [] rfl (HO.out.alloc _) ⟨V.heap.size, 0, none⟩ 1 1 [.int .i64 ((0 : Nat) : Int), .int .u64 lf, .int .u64 fr, .int .u64 to, .bool la, .bool false] rfl rfl (cells_six_new _ _) (by simp [Value.oneCell']) (by unfold maxLen; omega) (by omega) (by have := HGS.out; simp; omega) ?_; intro v5 w5 hown' hgrow _; obtain ⟨g5, cap5, rfl⟩ := ownsRow_succ hown'; have HO5 := TW.hide hown'; have HG5 := TW.hide hgrow; clear hown' hgrow)
  have HN5 := TW.hide (ow_grown (blk_alloc HN1.out) HG5.out (fun h => by cases h))
  have HV5 := TW.hide (ow_grown (blk_alloc G1.out) HG5.out (fun h => by cases h))
  have HB5 : Hid (Below w.heap.size w w5) := (HB1.out.alloc HB1.out.size _).grown HG5.out (by have := HB1.out.size; simp; omega) (fun k h => by cases h)
  clear HG5 HN1 HB1 G1 HO HGS s0 s1 s2 s3 s4 s5 z2 z3
  refine HK.out _ _ ?_
  clear HK K
  refine wp_seq_k fun K hK => ?_
  have HK := TW.hide hK
  clear hK
  go_wp2
  go_loopw [8, 11, 12] (fun l x y wr => ∃ (i g' cap : Nat), i < len ∧ l = .slice (some ⟨g', 0, none⟩) (i + 1) cap ∧ wr.ownsRow (g + 1) 50 6 (.slice (some ⟨g', 0, none⟩) (i + 1) cap) (i + 1) (WC (i + 1)) ∧ wr.heap[g]? = some (.cells (WS i) 50 (0, 0)) ∧ wr.heap[w.heap.size]? = some (.cells #[.int .i64 T.k, .int .i64 T.d, .int .i64 T.f, .int .i64 T.dp, .int .u32 T.lf, .int .i64 T.inn, .slice T.ka T.kl T.kc, .slice T.sa T.sl T.sc, .slice T.pa T.pl T.pc] 26 (0, 0)) ∧ Below w.heap.size w wr)
    (fun l x y wr => len - slen l)
  case atStart => exact ⟨0, g5, cap5, by omega, rfl, by rw [HW1.out]; exact HO5.out, by rw [e0, ha0, HR0.out]; exact HV5.out, HN5.out, HB5.out⟩
  case round =>
    obtain ⟨i, g', cap, hil, rfl, hown, hgs, hn2, hB⟩ := hrel
    clear HO5 HV5 HN5 HB5 e0 HW1 HR0
    obtain ⟨fr, to, la, ei⟩ := HWS.out i
    rw [ei, HRT.out] at hgs
    clear ei
    obtain ⟨c0, c1, c2, c3, c4, c5, c6, c7, c8⟩ := cells9 hn2
    have HN := TW.hide hn2
    have HB := TW.hide hB
    have HO := TW.hide hown
    have HG1 := TW.hide hgs
    clear hn2 hB hown hgs
    have HLT := TW.hide hil
    clear hil
    by_cases hlast : i + 1 = len
    · rw [decide_eq_true hlast] at HG1
      obtain ⟨⟨s0, s1, s2, s3, s4, s5⟩, z2, z3⟩ := cells6f HG1.out
      have HLA := TW.hide hlast
      clear hlast htwo h255
      go_wp2
      refine HK.out _ _ ?_
      clear HK
      go_wp2
      go_ret2
      refine ⟨_, rfl, ?_, HB.out⟩
      rw [← HLA.out]
      exact ow_base HO.out (by have := HG.out; omega)
    · rw [decide_eq_false hlast] at HG1
      obtain ⟨⟨s0, s1, s2, s3, s4, s5⟩, z2, z3⟩ := cells6f HG1.out
      have hi1 : i + 1 < len := by have := HLT.out; omega
      have HC1 := TW.hide (HP1.out i hi1)
      have HC2 := TW.hide (HS1.out (i + 1) hi1)
      have HI1 := TW.hide hi1
      have H255 := TW.hide h255
      have hw1 : IntKind.i64.wrap ((i : Int) + 1) = ((i + 1 : Nat) : Int) := by rw [IntKind.wrap_i64]; omega
      obtain ⟨fr2, to2, la2, ei2⟩ := HWS.out (i + 1)
      rw [ei2] at HC2
      have HEI := TW.hide ei2
      clear ei2 hlast hi1 h255 htwo HLT
      generalize rtB R ((i + 1 : Nat) : Int) = ro2 at *
      generalize AW i = a1 at *
      generalize AW (i + 1) = a2 at *
      go_wp2_with fail
      refine (HC1.out _).mono ?_
      rintro e1 w1 ⟨rfl, hb⟩
      clear c0 c1 c2 c3 c4 c5 c6 c7 c8 s0 s1 s2 s3 s4 s5 z2 z3 HC1
      have HN1 := TW.hide (blk_keep HN.out hb)
      have HG2 := TW.hide (blk_keep HG1.out hb)
      have HO1 := TW.hide (ow_below HO.out hb)
      have HB1 : Hid (Below w.heap.size w w1) := HB.out.trans (hb.mono HB.out.size)
      clear HN HG1 HO HB hb
      obtain ⟨c0, c1, c2, c3, c4, c5, c6, c7, c8⟩ := cells9 HN1.out
      obtain ⟨⟨s0, s1, s2, s3, s4, s5⟩, z2, z3⟩ := cells6f HG2.out
      go_wp2_with fail
      refine (HC2.out _).mono ?_
      rintro e2 w2 ⟨rfl, hb⟩
      clear c0 c1 c2 c3 c4 c5 c6 c7 c8 s0 s1 s2 s3 s4 s5 z2 z3 HC2
      have HN2 := TW.hide (blk_keep HN1.out hb)
      have HG3 := TW.hide (blk_keep HG2.out hb)
      have HO2 := TW.hide (ow_below HO1.out hb)
      have HB2 : Hid (Below w.heap.size w w2) := HB1.out.trans (hb.mono HB1.out.size)
      clear HN1 HG2 HO1 HB1 hb
      have YG : Hid ((w2.setRow g #[.int .i64 ((i + 1 : Nat) : Int), .int .u64 a2, .int .u64 fr2, .int .u64 to2, .bool la2, .bool ro2]).heap[g]? = some (.cells #[.int .i64 ((i + 1 : Nat) : Int), .int .u64 a2, .int .u64 fr2, .int .u64 to2, .bool la2, .bool ro2] 50 (0, 0))) := setRow_heap _ _ _ _ _ _ HG3.out
      have YN : Hid ((w2.setRow g #[.int .i64 ((i + 1 : Nat) : Int), .int .u64 a2, .int .u64 fr2, .int .u64 to2, .bool la2, .bool ro2]).heap[w.heap.size]? = some (.cells #[.int .i64 T.k, .int .i64 T.d, .int .i64 T.f, .int .i64 T.dp, .int .u32 T.lf, .int .i64 T.inn, .slice T.ka T.kl T.kc, .slice T.sa T.sl T.sc, .slice T.pa T.pl T.pc] 26 (0, 0))) := (setRow_other _ _ _ _ (by have := HG.out; omega)).trans HN2.out
      have YO := TW.hide (ow_other (cs := #[.int .i64 ((i + 1 : Nat) : Int), .int .u64 a2, .int .u64 fr2, .int .u64 to2, .bool la2, .bool ro2]) HO2.out (Nat.lt_succ_self g))
      have YB : Hid (Below w.heap.size w (w2.setRow g #[.int .i64 ((i + 1 : Nat) : Int), .int .u64 a2, .int .u64 fr2, .int .u64 to2, .bool la2, .bool ro2])) := below_setRow HB2.out (by have := HG.out; omega)
      obtain ⟨⟨s0, s1, s2, s3, s4, s5⟩, z2, z3⟩ := cells6f YG.out
      go_wp2_with (first | (refine wpList_store_row (by rfl) 50 _ _ (by rfl) g #[.int .i64 ((i + 1 : Nat) : Int), .int .u64 a2, .int .u64 fr2, .int .u64 to2, .bool la2, .bool ro2] (by rfl) (by rfl) 50 _ HG3.out (by kernel_rfl) (by rfl) (by simp [Value.oneCell']) ?_; generalize w2.setRow _ _ = Y at *) | (at_builtin; refine wpList_append_own _ rfl _ _ 57 rfl (g + 1) 50 i0 (.agg #[.int .i64 0, .int .u64 0, .int .u64 0, .int .u64 0, .bool false, .bool false]) 6 40 Try.underlying57 hi hz0 hz1 hz2 rfl (by decide) _ (i + 1) (WC (i + 1)) rfl (YO.out.alloc _) ⟨Y.heap.size, 0, none⟩ 1 1 [.int .i64 ((i + 1 : Nat) : Int), .int .u64 a2, .int .u64 fr2, .int .u64 to2, .bool la2, .bool ro2] rfl rfl (cells_six_new _ _) (by simp [Value.oneCell']) (by have := H255.out; have := HI1.out; unfold maxLen; omega) (by have := H255.out; have := HI1.out; omega) (by have := blk_lt YG.out; simp; omega) ?_; intro v5 w5 hown' hgrow _; obtain ⟨g5, cap5, rfl⟩ := ownsRow_succ hown'; have HO5 := TW.hide hown'; have HG5 := TW.hide hgrow; clear hown' hgrow))
      have ZN := TW.hide (ow_grown (blk_alloc YN.out) HG5.out (fun h => by have := ow_block YO.out _ h; have := HG.out; omega))
      have ZV := TW.hide (ow_grown (blk_alloc YG.out) HG5.out (fun h => by have := ow_block YO.out _ h; omega))
      have ZB : Hid (Below w.heap.size w w5) := (YB.out.alloc YB.out.size _).grown HG5.out (by have := YB.out.size; simp; omega) (fun k h => by have := ow_block YO.out _ h; have := HG.out; omega)
      clear HG5 YN YG YB YO s0 s1 s2 s3 s4 s5 z2 z3
      go_wp2
      go_roundw
      case rel =>
        refine ⟨i + 1, g5, cap5, HI1.out, rfl, ?_, ?_, ZN.out, ZB.out⟩
        · rw [HW.out, HEI.out]; exact HO5.out
        · rw [HEI.out]; exact ZV.out
      case measure => simp [slen]; have := HI1.out; omega
end LW
end Go.Proofs.Ytcpegipojkbcoaa
