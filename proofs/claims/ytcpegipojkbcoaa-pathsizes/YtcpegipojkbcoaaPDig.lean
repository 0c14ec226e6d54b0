/-
  What before, after, digests and Size of the program give.
-/
import Derived.Test.YtcpegipojkbcoaaPFind
namespace Go.Proofs.Ytcpegipojkbcoaa
open Go.RowKit
set_option linter.unusedVariables false
set_option linter.unusedSimpArgs false
namespace LW
open Words
theorem cells7 {w : World} {b : Nat} {t : TypeId} {v0 v1 v2 v3 v4 v5 v6 : Value} (h : w.heap[b]? = some (.cells #[v0, v1, v2, v3, v4, v5, v6] t (0, 0))) : w.cell? ⟨b, 0, none⟩ = some v0 ∧ w.cell? ⟨b, 1, none⟩ = some v1 ∧ w.cell? ⟨b, 2, none⟩ = some v2 ∧ w.cell? ⟨b, 3, none⟩ = some v3 ∧ w.cell? ⟨b, 4, none⟩ = some v4 ∧ w.cell? ⟨b, 5, none⟩ = some v5 ∧ w.cell? ⟨b, 6, none⟩ = some v6 := by
  simp [World.cell?, h]
set_option maxRecDepth 100000 in
set_option maxHeartbeats 2000000 in
theorem before_ (x0 : Int) (x1 F E C : Nat) (x4 x5 : Bool) (h1 : F ≤ C) (h2 : C < E) (h3 : E < 18446744073709551616) (w : World) : Calls Try.prog 28 #[.agg #[.int .i64 x0, .int .u64 x1, .int .u64 F, .int .u64 E, .bool x4, .bool x5, .int .u64 C]] w fun e w' => e = .returned (.int .u64 (C - F : Nat)) ∧ Below w.heap.size w w' := by
  have e1 : IntKind.u64.wrap ((C : Int) - (F : Int)) = ((C - F : Nat) : Int) := by rw [IntKind.wrap_u64]; omega
  generalize C - F = z at *
  try generalize E - C = z1 at *
  have HB := TW.hide ((Below.refl w.heap.size w).alloc (Nat.le_refl _) (.cells #[.int .i64 x0, .int .u64 x1, .int .u64 F, .int .u64 E, .bool x4, .bool x5, .int .u64 C] 74))
  have n0 := heap_alloc_new w (.cells #[.int .i64 x0, .int .u64 x1, .int .u64 F, .int .u64 E, .bool x4, .bool x5, .int .u64 C] 74)
  obtain ⟨c0, c1, c2, c3, c4, c5, c6⟩ := cells7 n0
  clear n0 h1 h2 h3
  go_enter Try.func28, Try.ntmps28
  go_wp2
  go_ret
  exact ⟨rfl, HB.out⟩
set_option maxRecDepth 100000 in
set_option maxHeartbeats 2000000 in
theorem after_ (x0 : Int) (x1 F E C : Nat) (x4 x5 : Bool) (h1 : F ≤ C) (h2 : C < E) (h3 : E < 18446744073709551616) (w : World) : Calls Try.prog 29 #[.agg #[.int .i64 x0, .int .u64 x1, .int .u64 F, .int .u64 E, .bool x4, .bool x5, .int .u64 C]] w fun e w' => e = .returned (.int .u64 (E - C - 1 : Nat)) ∧ Below w.heap.size w w' := by
  have e1 : IntKind.u64.wrap ((E : Int) - (C : Int)) = ((E - C : Nat) : Int) := by rw [IntKind.wrap_u64]; omega
  have e2 : IntKind.u64.wrap (((E - C : Nat) : Int) - 1) = ((E - C - 1 : Nat) : Int) := by rw [IntKind.wrap_u64]; omega
  generalize E - C - 1 = z at *
  try generalize E - C = z1 at *
  have HB := TW.hide ((Below.refl w.heap.size w).alloc (Nat.le_refl _) (.cells #[.int .i64 x0, .int .u64 x1, .int .u64 F, .int .u64 E, .bool x4, .bool x5, .int .u64 C] 74))
  have n0 := heap_alloc_new w (.cells #[.int .i64 x0, .int .u64 x1, .int .u64 F, .int .u64 E, .bool x4, .bool x5, .int .u64 C] 74)
  obtain ⟨c0, c1, c2, c3, c4, c5, c6⟩ := cells7 n0
  clear n0 h1 h2 h3
  go_enter Try.func29, Try.ntmps29
  go_wp2
  go_ret
  exact ⟨rfl, HB.out⟩
/-- The forks of a way, as they lie. -/
def Fk (W : World) (g k : Nat) (AW WF WT : Nat → Nat) : Prop := ∀ i, i < k → ∃ (x0 : Int) (x1 : Nat) (x4 x5 : Bool), W.cell? ⟨g, i * 7, none⟩ = some (.int .i64 x0) ∧ W.cell? ⟨g, i * 7 + 1, none⟩ = some (.int .u64 x1) ∧ W.cell? ⟨g, i * 7 + 2, none⟩ = some (.int .u64 (WF (i + 1))) ∧ W.cell? ⟨g, i * 7 + 3, none⟩ = some (.int .u64 (WT (i + 1))) ∧ W.cell? ⟨g, i * 7 + 4, none⟩ = some (.bool x4) ∧ W.cell? ⟨g, i * 7 + 5, none⟩ = some (.bool x5) ∧ W.cell? ⟨g, i * 7 + 6, none⟩ = some (.int .u64 (AW i))
theorem Fk.below {w w' : World} {g k : Nat} {AW WF WT : Nat → Nat} (h : Fk w g k AW WF WT) (hb : Below w.heap.size w w') : Fk w' g k AW WF WT := by
  intro i hi
  obtain ⟨x0, x1, x4, x5, h0, h1, h2, h3, h4, h5, h6⟩ := h i hi
  have hl := lt_of_cell h0
  exact ⟨x0, x1, x4, x5, by rw [hb.cell hl]; exact h0, by rw [hb.cell hl]; exact h1, by rw [hb.cell hl]; exact h2, by rw [hb.cell hl]; exact h3, by rw [hb.cell hl]; exact h4, by rw [hb.cell hl]; exact h5, by rw [hb.cell hl]; exact h6⟩
/-- What find hands back can be read. -/
theorem fork_open {w : World} {B : Nat} {v : Value} {T : Tr} {n : Nat} {R : List Nat} {lf k : Nat} (h : w.ownsRow B 74 7 v k (foC T n R lf k)) (hk : 0 < k) : ∃ g cap, v = .slice (some ⟨g, 0, none⟩) k cap ∧ B ≤ g ∧ g < w.heap.size ∧ Fk w g k (aw T R lf) (wF T R lf) (wT T n R lf) := by
  rcases h.2 with ⟨_, h0⟩ | ⟨g, cap, cur, rfl, hg, hh, hn, hm, hc, ht⟩
  · omega
  · refine ⟨g, cap, rfl, hg, blk_lt hh, fun i hi => ?_⟩
    have hcl : ∀ c u, c < 7 → (foS T n R lf i).toList[c]? = some u → w.cell? ⟨g, i * 7 + c, none⟩ = some u := fun c u hc7 hu => by
      refine blk_cell hh ?_
      have h1 : (cur.toList.take (k * 7))[i * 7 + c]? = some u := by
        rw [ht, foC_get T n R lf k i c hi hc7]
        exact hu
      rw [List.getElem?_take, if_pos (by omega)] at h1
      simpa using h1
    exact ⟨_, _, _, _, hcl 0 _ (by omega) rfl, hcl 1 _ (by omega) rfl, hcl 2 _ (by omega) rfl, hcl 3 _ (by omega) rfl, hcl 4 _ (by omega) rfl, hcl 5 _ (by omega) rfl, hcl 6 _ (by omega) rfl⟩
set_option maxRecDepth 100000 in
set_option maxHeartbeats 2000000 in
theorem digests_ (T : Tr) (n : Nat) (s0 : Int) (s1 s2 s3 : Int) (s4 s5 : Bool) (g k cap : Nat) (AW WF WT SZ : Nat → Nat) (w : World) (hF : Fk w g k AW WF WT) (hk : k ≤ 255) (hX : ∀ i, i < k → WF (i + 1) ≤ AW i ∧ AW i < WT (i + 1) ∧ WT (i + 1) < 18446744073709551616) (hS0 : SZ 0 = 0) (hS : ∀ i, SZ (i + 1) = SZ i + (WT (i + 1) - WF (i + 1) - 1)) :
    Calls Try.prog 15 #[.agg #[.int .i64 T.k, .int .i64 T.d, .int .i64 T.f, .int .i64 T.dp, .int .u32 T.lf, .int .i64 T.inn, .slice T.ka T.kl T.kc, .slice T.sa T.sl T.sc, .slice T.pa T.pl T.pc, .int .u64 n, .int .i64 s0, .int .u64 s1, .int .u64 s2, .int .u64 s3, .bool s4, .bool s5, .slice (some ⟨g, 0, none⟩) k cap]] w fun e w' => e = .returned (.int .u64 (SZ k % 18446744073709551616 : Nat)) ∧ Below w.heap.size w w' := by
  have HF : Hid (∀ W, Below w.heap.size w W → Fk W g k AW WF WT) := fun W hW => hF.below hW
  have HX := TW.hide hX
  have HS := TW.hide hS
  obtain ⟨Fz, hFz⟩ : ∃ Fz, SZ k % 18446744073709551616 = Fz := ⟨_, rfl⟩
  rw [hFz]
  have HFZ := TW.hide hFz
  clear hF hX hS hFz
  have n0 := heap_alloc_new w (.cells #[.int .i64 T.k, .int .i64 T.d, .int .i64 T.f, .int .i64 T.dp, .int .u32 T.lf, .int .i64 T.inn, .slice T.ka T.kl T.kc, .slice T.sa T.sl T.sc, .slice T.pa T.pl T.pc, .int .u64 n, .int .i64 s0, .int .u64 s1, .int .u64 s2, .int .u64 s3, .bool s4, .bool s5, .slice (some ⟨g, 0, none⟩) k cap] 53)
  have hb0 := (Below.refl w.heap.size w).alloc (Nat.le_refl _) (.cells #[.int .i64 T.k, .int .i64 T.d, .int .i64 T.f, .int .i64 T.dp, .int .u32 T.lf, .int .i64 T.inn, .slice T.ka T.kl T.kc, .slice T.sa T.sl T.sc, .slice T.pa T.pl T.pc, .int .u64 n, .int .i64 s0, .int .u64 s1, .int .u64 s2, .int .u64 s3, .bool s4, .bool s5, .slice (some ⟨g, 0, none⟩) k cap] 53)
  have B0 := TW.hide hb0
  have hl0 := blk_lt n0
  obtain ⟨_, _, _, f0, _⟩ := cells17 n0
  clear n0 hb0
  go_enter Try.func15, Try.ntmps15
  refine wp_seq_k fun K hK => ?_
  have HK := TW.hide hK
  clear hK
  go_wp2_with fail
  refine HK.out _ _ ?_
  clear HK K
  generalize w.alloc _ = X at *
  go_wp2
  go_loopw [3, 5, 9] (fun q x i wr => ∃ i' : Nat, i' ≤ k ∧ q = .int .u64 ((SZ i' % 18446744073709551616 : Nat) : Int) ∧ i = .int .i64 (i' : Int) ∧ Below w.heap.size w wr) (fun q x i wr => k - (intOf i).toNat)
  case atStart => exact ⟨0, Nat.zero_le _, by rw [hS0]; rfl, rfl, B0.out⟩
  case round =>
    obtain ⟨i, hi, rfl, rfl, hB⟩ := hrel
    by_cases hlt : i < k
    · have hi1 : (i : Int) < (k : Int) := by omega
      have hi0 : (0 : Int) ≤ (i : Int) := by omega
      obtain ⟨x0, x1, x4, x5, d0, d1, d2, d3, d4, d5, d6⟩ := HF.out wr hB i hlt
      obtain ⟨h1, h2, h3⟩ := HX.out i hlt
      have h4 := HS.out i
      have H1 := TW.hide (fun W => before_ x0 x1 (WF (i + 1)) (WT (i + 1)) (AW i) x4 x5 h1 h2 h3 W)
      have H2 := TW.hide (fun W => after_ x0 x1 (WF (i + 1)) (WT (i + 1)) (AW i) x4 x5 h1 h2 h3 W)
      have e1 : IntKind.u64.wrap (((AW i - WF (i + 1) : Nat) : Int) + ((WT (i + 1) - AW i - 1 : Nat) : Int)) = ((WT (i + 1) - WF (i + 1) - 1 : Nat) : Int) := by rw [IntKind.wrap_u64]; omega
      have e2 : IntKind.u64.wrap (((SZ i % 18446744073709551616 : Nat) : Int) + ((WT (i + 1) - WF (i + 1) - 1 : Nat) : Int)) = ((SZ (i + 1) % 18446744073709551616 : Nat) : Int) := by rw [IntKind.wrap_u64, h4]; omega
      have e3 : IntKind.i64.wrap ((i : Int) + 1) = ((i + 1 : Nat) : Int) := by rw [IntKind.wrap_i64]; omega
      have HLT := TW.hide hlt
      clear h1 h2 h3 h4 hlt hi
      generalize SZ i % 18446744073709551616 = z0 at *
      generalize hz : SZ (i + 1) % 18446744073709551616 = z1 at *
      have HZ := TW.hide hz
      clear hz
      generalize AW i - WF (i + 1) = q1 at *
      generalize WT (i + 1) - AW i - 1 = q2 at *
      generalize WT (i + 1) - WF (i + 1) - 1 = q3 at *
      generalize WF (i + 1) = F at *
      generalize WT (i + 1) = E at *
      generalize AW i = C at *
      have n1 := heap_alloc_new wr (.cells #[.int .i64 x0, .int .u64 x1, .int .u64 F, .int .u64 E, .bool x4, .bool x5, .int .u64 C] 74)
      have hb1 := (Below.refl wr.heap.size wr).alloc (Nat.le_refl _) (.cells #[.int .i64 x0, .int .u64 x1, .int .u64 F, .int .u64 E, .bool x4, .bool x5, .int .u64 C] 74)
      have HB1 : Hid (Below w.heap.size w (wr.alloc (.cells #[.int .i64 x0, .int .u64 x1, .int .u64 F, .int .u64 E, .bool x4, .bool x5, .int .u64 C] 74))) := hB.trans (hb1.mono hB.size)
      have hE := blk_lt n1
      obtain ⟨y0, y1, y2, y3, y4, y5, y6⟩ := cells7 n1
      have HN := TW.hide n1
      clear hB hb1 n1
      go_wp2
      generalize wr.alloc _ = V at *
      generalize wr.heap.size = gf at *
      go_region_held3 (fun w' => w'.cell? ⟨gf, 0, none⟩ = some (.int .i64 x0) ∧ w'.cell? ⟨gf, 1, none⟩ = some (.int .u64 x1) ∧ w'.cell? ⟨gf, 2, none⟩ = some (.int .u64 F) ∧ w'.cell? ⟨gf, 3, none⟩ = some (.int .u64 E) ∧ w'.cell? ⟨gf, 4, none⟩ = some (.bool x4) ∧ w'.cell? ⟨gf, 5, none⟩ = some (.bool x5) ∧ w'.cell? ⟨gf, 6, none⟩ = some (.int .u64 C))
        (first | go_keep | (refine ⟨?_, ?_, ?_, ?_, ?_, ?_, ?_⟩ <;> rw [hb2.cell hE] <;> assumption) | (refine ⟨?_, ?_, ?_, ?_, ?_, ?_, ?_⟩ <;> rw [hb3.cell (Nat.lt_of_lt_of_le hE hb2.size), hb2.cell hE] <;> assumption))
        (first | (go_at_call 28; refine (H1.out _).mono ?_; rintro e w2 ⟨rfl, hb2⟩) | (go_at_call 29; refine (H2.out _).mono ?_; rintro e w3 ⟨rfl, hb3⟩))
      have HB3 : Hid (Below w.heap.size w w3) := (HB1.out.trans ((show Below V.heap.size V w2 from below_of_drew hb2).mono HB1.out.size)).trans (hb3.mono (by have := HB1.out.size; have := hb2.size; simp at this; omega))
      clear hb2 hb3 HB1
      go_wp2
      go_roundw
      case rel => exact ⟨i + 1, HLT.out, by rw [HZ.out], by go_num, HB3.out⟩
      case measure => simp [intOf]; have := HLT.out; omega
    · obtain rfl : i = k := by omega
      have hi1 : ¬ (i : Int) < (i : Int) := by omega
      clear hlt hi
      rw [HFZ.out]
      have HB := TW.hide hB
      clear hB
      go_wp2
      go_ret
      exact ⟨rfl, HB.out⟩
end LW
end Go.Proofs.Ytcpegipojkbcoaa
