/-
  What fits, equal digests, appending: PFits, PEq, PApp in one.
-/
import Derived.Test.YtcpegipojkbcoaaPFDS
import Derived.Test.YtcpegipojkbcoaaFits
import Derived.Test.YtcpegipojkbcoaaOrder
import Derived.Test.YtcpegipojkbcoaaSh6
import Derived.Test.YtcpegipojkbcoaaRPack
namespace Go.Proofs.Ytcpegipojkbcoaa
open Go.RowKit
set_option linter.unusedVariables false
set_option linter.unusedSimpArgs false
namespace LW
open Words
set_option maxRecDepth 100000 in
set_option maxHeartbeats 2000000 in
theorem wide_ (T : Tr) (n : Nat) (s0 s1 s2 s3 : Int) (s4 s5 : Bool) (g k cap : Nat) (A : Option Addr) (KA : Nat) (ls : List (List Int)) (q : Nat) (w : World) (hL : Ls w A ls) (hB : LB ls) (hq : q < 18446744073709551616) :
    Calls Try.prog 41 #[.agg #[.int .i64 T.k, .int .i64 T.d, .int .i64 T.f, .int .i64 T.dp, .int .u32 T.lf, .int .i64 T.inn, .slice T.ka T.kl T.kc, .slice T.sa T.sl T.sc, .slice T.pa T.pl T.pc, .int .u64 n, .int .i64 s0, .int .u64 s1, .int .u64 s2, .int .u64 s3, .bool s4, .bool s5, .slice (some ⟨g, 0, none⟩) k cap], .slice A ls.length KA, .int .u64 q] w fun e w' => ∃ b : Bool, e = .returned (.bool b) ∧ (b = true ↔ ls.length = q ∧ AllI ls T.inn) ∧ Below w.heap.size w w' := by
  have hl1 := hB.1
  have GB := TW.hide hB.2
  have n0 := heap_alloc_new w (.cells #[.int .i64 T.k, .int .i64 T.d, .int .i64 T.f, .int .i64 T.dp, .int .u32 T.lf, .int .i64 T.inn, .slice T.ka T.kl T.kc, .slice T.sa T.sl T.sc, .slice T.pa T.pl T.pc, .int .u64 n, .int .i64 s0, .int .u64 s1, .int .u64 s2, .int .u64 s3, .bool s4, .bool s5, .slice (some ⟨g, 0, none⟩) k cap] 53)
  have hb0 := (Below.refl w.heap.size w).alloc (Nat.le_refl _) (.cells #[.int .i64 T.k, .int .i64 T.d, .int .i64 T.f, .int .i64 T.dp, .int .u32 T.lf, .int .i64 T.inn, .slice T.ka T.kl T.kc, .slice T.sa T.sl T.sc, .slice T.pa T.pl T.pc, .int .u64 n, .int .i64 s0, .int .u64 s1, .int .u64 s2, .int .u64 s3, .bool s4, .bool s5, .slice (some ⟨g, 0, none⟩) k cap] 53)
  have B0 := TW.hide hb0
  have HL := TW.hide (hL.below hb0)
  obtain ⟨⟨_, _, _, _, _, c5, _⟩, _⟩ := cells17 n0
  obtain ⟨m, hm⟩ : ∃ m, ls.length = m := ⟨_, rfl⟩
  have HM := TW.hide hm
  rw [hm] at hl1
  simp only [hm]
  have HAI : Hid (AllI ls T.inn ↔ ∀ r, r < m → ((ls.getD r []).length : Int) = T.inn) := by
    show _ ↔ _
    rw [← hm]; rfl
  generalize AllI ls T.inn = AI at *
  clear n0 hb0 hL hB hm
  have e1 : IntKind.u64.wrap (m : Int) = (m : Int) := by rw [IntKind.wrap_u64]; omega
  go_enter Try.func41, Try.ntmps41
  refine wp_seq_k fun K hK => ?_
  have HK := TW.hide hK
  clear hK
  go_wp2_with fail
  refine HK.out _ _ ?_
  clear HK K
  generalize w.alloc _ = X at *
  by_cases hmq : m = q
  · have hne : ((m : Int) != (q : Int)) = false := by simp; omega
    have HMQ := TW.hide hmq
    clear hmq
    go_wp2
    go_loopw [8, 16] (fun x i wr => ∃ r : Nat, r ≤ m ∧ i = .int .i64 (r : Int) ∧ Hid (∀ x, x < r → ((ls.getD x []).length : Int) = T.inn) ∧ wr = X) (fun x i wr => m - (intOf i).toNat)
    case atStart => exact ⟨0, Nat.zero_le _, rfl, TW.hide (fun x hx => by omega), rfl⟩
    case round =>
      obtain ⟨r, hr, rfl, HAL, rfl⟩ := hrel
      by_cases hrl : r < m
      · have hrI : (r : Int) < (m : Int) := by omega
        have hr0 : (0 : Int) ≤ (r : Int) := by omega
        obtain ⟨bb, ob, rfl, Ar, Kr, hcr⟩ : ∃ bb ob, A = some ⟨bb, ob, none⟩ ∧ ∃ Ar Kr, wr.cell? ⟨bb, ob + r, none⟩ = some (.slice Ar (ls.getD r []).length Kr) := by
          rcases HL.out with h | ⟨bb, ob, e, hc⟩
          · exfalso; have := HM.out; rw [h] at this; simp at this; omega
          · obtain ⟨Ar, Kr, h1, _⟩ := hc r (by rw [HM.out]; exact hrl)
            exact ⟨bb, ob, e, Ar, Kr, h1⟩
        have hlr := GB.out r
        obtain ⟨lr, hlre⟩ : ∃ lr, (ls.getD r []).length = lr := ⟨_, rfl⟩
        have HLR := TW.hide hlre
        rw [hlre] at hcr hlr
        clear hlre
        have e3 : IntKind.i64.wrap ((r : Int) + 1) = ((r + 1 : Nat) : Int) := by rw [IntKind.wrap_i64]; omega
        obtain ⟨bq, hbq⟩ : ∃ bq, ((lr : Int) != T.inn) = bq := ⟨_, rfl⟩
        cases bq with
        | true =>
          go_wp2
          go_ret
          refine ⟨false, rfl, ⟨fun h => (by cases h), fun h => ?_⟩, B0.out⟩
          have := HAI.out.1 h.2 r hrl
          rw [HLR.out] at this
          simp [this] at hbq
        | false =>
          have hle : (lr : Int) = T.inn := by simpa using hbq
          have HLE := TW.hide hle
          clear hle
          go_wp2
          go_roundw
          case rel =>
            refine ⟨r + 1, by omega, by go_num, TW.hide (fun x hx => ?_), by trivial⟩
            rcases Nat.lt_or_ge x r with h | h
            · exact HAL.out x h
            · obtain rfl : x = r := by omega
              rw [HLR.out]; exact HLE.out
          case measure => simp [intOf]; omega
      · obtain rfl : r = m := by omega
        go_wp2
        go_ret
        exact ⟨true, rfl, ⟨fun _ => ⟨HMQ.out, HAI.out.2 HAL.out⟩, fun _ => rfl⟩, B0.out⟩
  · have hne : ((m : Int) != (q : Int)) = true := by simp; omega
    have HMQ := TW.hide hmq
    clear hmq
    go_wp2
    go_ret
    exact ⟨false, rfl, ⟨fun h => (by cases h), fun h => absurd h.1 HMQ.out⟩, B0.out⟩
theorem wideB (T : Tr) (n : Nat) (s0 s1 s2 s3 : Int) (s4 s5 : Bool) (g k cap : Nat) (A : Option Addr) (KA : Nat) (ls : List (List Int)) (q m : Nat) (w : World) (hL : Ls w A ls) (hB : LB ls) (hq : q < 18446744073709551616) (hm : ls.length = m) (b : Bool) (hb : b = true ↔ m = q ∧ AllI ls T.inn) :
    Calls Try.prog 41 #[.agg #[.int .i64 T.k, .int .i64 T.d, .int .i64 T.f, .int .i64 T.dp, .int .u32 T.lf, .int .i64 T.inn, .slice T.ka T.kl T.kc, .slice T.sa T.sl T.sc, .slice T.pa T.pl T.pc, .int .u64 n, .int .i64 s0, .int .u64 s1, .int .u64 s2, .int .u64 s3, .bool s4, .bool s5, .slice (some ⟨g, 0, none⟩) k cap], .slice A m KA, .int .u64 q] w fun e w' => e = .returned (.bool b) ∧ Below w.heap.size w w' := by
  subst hm
  refine (wide_ T n s0 s1 s2 s3 s4 s5 g k cap A KA ls q w hL hB hq).mono ?_
  rintro e w' ⟨x, rfl, hx, hbb⟩
  have : x = b := by rw [Bool.eq_iff_iff, hx, hb]
  rw [this]
  exact ⟨rfl, hbb⟩
theorem keepC {V W : World} (hb : Below V.heap.size V W) {p o : Nat} {u : Value} (h : V.cell? ⟨p, o, none⟩ = some u) : W.cell? ⟨p, o, none⟩ = some u := by
  rw [hb.cell (lt_of_cell h)]; exact h
set_option maxRecDepth 100000 in
set_option maxHeartbeats 2000000 in
theorem fits1 (T : Tr) (n : Nat) (s0 s1 s2 s3 : Int) (s4 s5 : Bool) (g k cap wb : Nat) (x0 : Int) (x1 F E C : Nat) (x4 x5 : Bool) (A A' : Option Addr) (nb KA nf KA' : Nat) (bs fs : List (List Int)) (w : World) (h1 : F ≤ C) (h2 : C < E) (h3 : E < 18446744073709551616) (hW : w.heap[wb]? = some (.cells #[.int .i64 T.k, .int .i64 T.d, .int .i64 T.f, .int .i64 T.dp, .int .u32 T.lf, .int .i64 T.inn, .slice T.ka T.kl T.kc, .slice T.sa T.sl T.sc, .slice T.pa T.pl T.pc, .int .u64 n, .int .i64 s0, .int .u64 s1, .int .u64 s2, .int .u64 s3, .bool s4, .bool s5, .slice (some ⟨g, 0, none⟩) k cap] 53 (0, 0))) (hL : Ls w A bs) (hB : LB bs) (hL' : Ls w A' fs) (hB' : LB fs) (hn : bs.length = nb) (hn' : fs.length = nf) (b1 b2 : Bool) (hb1 : b1 = true ↔ nb = C - F ∧ AllI bs T.inn) (hb2 : b2 = true ↔ nf = E - C - 1 ∧ AllI fs T.inn) :
    Calls Try.prog 40 #[.agg #[.int .i64 x0, .int .u64 x1, .int .u64 F, .int .u64 E, .bool x4, .bool x5, .int .u64 C], .agg #[.slice A nb KA, .slice A' nf KA'], .pointer (some ⟨wb, 0, none⟩)] w fun e w' => e = .returned (.bool (b1 && b2)) ∧ Below w.heap.size w w' := by
  have HW1 : Hid (∀ W, Below w.heap.size w W → Calls Try.prog 41 #[.agg #[.int .i64 T.k, .int .i64 T.d, .int .i64 T.f, .int .i64 T.dp, .int .u32 T.lf, .int .i64 T.inn, .slice T.ka T.kl T.kc, .slice T.sa T.sl T.sc, .slice T.pa T.pl T.pc, .int .u64 n, .int .i64 s0, .int .u64 s1, .int .u64 s2, .int .u64 s3, .bool s4, .bool s5, .slice (some ⟨g, 0, none⟩) k cap], .slice A nb KA, .int .u64 (C - F : Nat)] W fun e w' => e = .returned (.bool b1) ∧ Below W.heap.size W w') := fun W hWW => wideB T n s0 s1 s2 s3 s4 s5 g k cap A KA bs (C - F) nb W (hL.below hWW) hB (by omega) hn b1 hb1
  have HW2 : Hid (∀ W, Below w.heap.size w W → Calls Try.prog 41 #[.agg #[.int .i64 T.k, .int .i64 T.d, .int .i64 T.f, .int .i64 T.dp, .int .u32 T.lf, .int .i64 T.inn, .slice T.ka T.kl T.kc, .slice T.sa T.sl T.sc, .slice T.pa T.pl T.pc, .int .u64 n, .int .i64 s0, .int .u64 s1, .int .u64 s2, .int .u64 s3, .bool s4, .bool s5, .slice (some ⟨g, 0, none⟩) k cap], .slice A' nf KA', .int .u64 (E - C - 1 : Nat)] W fun e w' => e = .returned (.bool b2) ∧ Below W.heap.size W w') := fun W hWW => wideB T n s0 s1 s2 s3 s4 s5 g k cap A' KA' fs (E - C - 1) nf W (hL'.below hWW) hB' (by omega) hn' b2 hb2
  have HBF := TW.hide (fun W => before_ x0 x1 F E C x4 x5 h1 h2 h3 W)
  have HAF := TW.hide (fun W => after_ x0 x1 F E C x4 x5 h1 h2 h3 W)
  clear hL hB hL' hB' hn hn' hb1 hb2 h1 h2 h3
  generalize C - F = q1 at *
  generalize E - C - 1 = q2 at *
  have n0 := heap_alloc_new w (.cells #[.int .i64 x0, .int .u64 x1, .int .u64 F, .int .u64 E, .bool x4, .bool x5, .int .u64 C] 74)
  have n1 := heap_alloc_new (w.alloc (.cells #[.int .i64 x0, .int .u64 x1, .int .u64 F, .int .u64 E, .bool x4, .bool x5, .int .u64 C] 74)) (.cells #[.slice A nb KA, .slice A' nf KA'] 65)
  rw [show (w.alloc (.cells #[.int .i64 x0, .int .u64 x1, .int .u64 F, .int .u64 E, .bool x4, .bool x5, .int .u64 C] 74)).heap.size = w.heap.size + 1 by simp] at n1
  have n0 := blk_alloc (o' := .cells #[.slice A nb KA, .slice A' nf KA'] 65) n0
  have nW := blk_alloc (o' := .cells #[.slice A nb KA, .slice A' nf KA'] 65) (blk_alloc (o' := .cells #[.int .i64 x0, .int .u64 x1, .int .u64 F, .int .u64 E, .bool x4, .bool x5, .int .u64 C] 74) hW)
  have hb0 := ((Below.refl w.heap.size w).alloc (Nat.le_refl _) (.cells #[.int .i64 x0, .int .u64 x1, .int .u64 F, .int .u64 E, .bool x4, .bool x5, .int .u64 C] 74))
  have hb1 := hb0.alloc hb0.size (.cells #[.slice A nb KA, .slice A' nf KA'] 65)
  have NB := TW.hide hb1
  have XW := TW.hide nW
  have XF := TW.hide n0
  have XS := TW.hide n1
  clear n0 n1 nW hb0 hb1 hW
  go_enter Try.func40, Try.ntmps40
  refine wp_seq_k fun K hK => ?_
  have HK := TW.hide hK
  clear hK
  go_wp2_with fail
  refine HK.out _ _ ?_
  clear HK K
  generalize (w.alloc _).alloc _ = X at *
  have HX0 : Hid (Below X.heap.size X X) := Below.refl _ _
  go_wp2
  refine wp_region_noPanic ?_
  refine RG.wp_region_L (fun Z => True) (fun Z => Below X.heap.size X Z) [] (by kernel_rfl) ?_
  refine RG.wpL_any fun Ya hY => ?_
  have HTa : Hid (Below X.heap.size X Ya) := by rw [hY]; exact below_drewN HX0.out 1
  clear hY
  refine RG.wpL_take (fuel := 11) (a' := ?Aa) [0, 1, 2, 3] (by kernel_rfl) (by kernel_rfl) (fun _ _ _ _ _ h => h) HTa.out (fun _ => trivial) ?ra ?_
  case ra =>
    refine RG.RunsIf.weak (v := .agg #[.int .i64 T.k, .int .i64 T.d, .int .i64 T.f, .int .i64 T.dp, .int .u32 T.lf, .int .i64 T.inn, .slice T.ka T.kl T.kc, .slice T.sa T.sl T.sc, .slice T.pa T.pl T.pc, .int .u64 n, .int .i64 s0, .int .u64 s1, .int .u64 s2, .int .u64 s3, .bool s4, .bool s5, .slice (some ⟨g, 0, none⟩) k cap]) (by rfl) (by rfl) (fun Z hT => exec_load_row' 53 _ (by rfl) wb (by rfl) 53 #[.int .i64 T.k, .int .i64 T.d, .int .i64 T.f, .int .i64 T.dp, .int .u32 T.lf, .int .i64 T.inn, .slice T.ka T.kl T.kc, .slice T.sa T.sl T.sc, .slice T.pa T.pl T.pc, .int .u64 n, .int .i64 s0, .int .u64 s1, .int .u64 s2, .int .u64 s3, .bool s4, .bool s5, .slice (some ⟨g, 0, none⟩) k cap] (0, 0) _ (blk_keep XW.out hT) Try.underlying53 rfl (by kernel_rfl)) ?_
    simp only [Act.put, List.setIfInBounds_toArray, List.set_cons_zero, List.set_cons_succ, List.getElem_toArray, List.getElem_cons_zero, List.getElem_cons_succ]
    refine RG.RunsIf.weak (v := ?_) (by rfl) (by rfl) (fun Z hT => ?_) ?_
    rotate_left
    · go_simp
      rfl
    simp only [Act.put, List.setIfInBounds_toArray, List.set_cons_zero, List.set_cons_succ, List.getElem_toArray, List.getElem_cons_zero, List.getElem_cons_succ]
    refine RG.RunsIf.weak (v := .slice A nb KA) (by rfl) (by rfl) (fun Z hT => ?_) ?_
    · obtain ⟨z0, z1⟩ := cellsQ2 (blk_keep XS.out hT)
      go_simp
    simp only [Act.put, List.setIfInBounds_toArray, List.set_cons_zero, List.set_cons_succ, List.getElem_toArray, List.getElem_cons_zero, List.getElem_cons_succ]
    refine RG.RunsIf.weak (v := .agg #[.int .i64 x0, .int .u64 x1, .int .u64 F, .int .u64 E, .bool x4, .bool x5, .int .u64 C]) (by rfl) (by rfl) (fun Z hT => ?_) ?_
    · obtain ⟨y0, y1, y2, y3, y4, y5, y6⟩ := cells7 (blk_keep XF.out hT)
      go_simp
    simp only [Act.put, List.setIfInBounds_toArray, List.set_cons_zero, List.set_cons_succ, List.getElem_toArray, List.getElem_cons_zero, List.getElem_cons_succ]
    exact RG.RunsIf.nil
  refine RG.wpL_step (i := 4) (by kernel_rfl) (by rfl) (by rfl) (fun KX hK => ?_)
  have HK := TW.hide hK
  clear hK
  go_simp
  refine (HBF.out _).mono ?_
  rintro ex1 W1 ⟨rfl, hb⟩
  have HT1 : Hid (Below X.heap.size X W1) := HTa.out.trans (hb.mono HTa.out.size)
  refine HK.out _ _ HT1.out (fun _ => trivial) ?_
  clear HK KX hb
  try simp only [Act.put, List.setIfInBounds_toArray, List.set_cons_zero, List.set_cons_succ, List.getElem_toArray, List.getElem_cons_zero, List.getElem_cons_succ]
  refine RG.wpL_step (i := 5) (by kernel_rfl) (by rfl) (by rfl) (fun KX hK => ?_)
  have HK := TW.hide hK
  clear hK
  go_simp
  refine (HW1.out _ (NB.out.trans (HT1.out.mono NB.out.size))).mono ?_
  rintro ex2 W2 ⟨rfl, hb⟩
  have HT2 : Hid (Below X.heap.size X W2) := HT1.out.trans (hb.mono HT1.out.size)
  refine HK.out _ _ HT2.out (fun _ => trivial) ?_
  clear HK KX hb
  try simp only [Act.put, List.setIfInBounds_toArray, List.set_cons_zero, List.set_cons_succ, List.getElem_toArray, List.getElem_cons_zero, List.getElem_cons_succ]
  cases b1 with
  | false =>
    refine RG.wpL_take (fuel := 0) (a' := ?Ab) [6, 7, 8, 9, 10, 11, 12, 13, 14] (by kernel_rfl) (by kernel_rfl) (fun _ _ _ _ _ h => h) HT2.out (fun _ => trivial) ?rb ?_
    case rb =>
      refine RG.RunsIf.weak (v := ?_) (by rfl) (by rfl) (fun Z hT => ?_) ?_
      rotate_left
      · go_simp
        rfl
      simp only [Act.put, List.setIfInBounds_toArray, List.set_cons_zero, List.set_cons_succ, List.getElem_toArray, List.getElem_cons_zero, List.getElem_cons_succ]
      refine RG.RunsIf.skip (by rfl) (by rfl) ?_
      refine RG.RunsIf.skip (by rfl) (by rfl) ?_
      refine RG.RunsIf.skip (by rfl) (by rfl) ?_
      refine RG.RunsIf.skip (by rfl) (by rfl) ?_
      refine RG.RunsIf.skip (by rfl) (by rfl) ?_
      refine RG.RunsIf.skip (by rfl) (by rfl) ?_
      refine RG.RunsIf.weak (v := ?_) (by rfl) (by rfl) (fun Z hT => ?_) ?_
      rotate_left
      · go_simp
        rfl
      simp only [Act.put, List.setIfInBounds_toArray, List.set_cons_zero, List.set_cons_succ, List.getElem_toArray, List.getElem_cons_zero, List.getElem_cons_succ]
      refine RG.RunsIf.weak (v := ?_) (by rfl) (by rfl) (fun Z hT => ?_) ?_
      rotate_left
      · go_simp
        rfl
      simp only [Act.put, List.setIfInBounds_toArray, List.set_cons_zero, List.set_cons_succ, List.getElem_toArray, List.getElem_cons_zero, List.getElem_cons_succ]
      exact RG.RunsIf.nil
    refine RG.wpL_done (by kernel_rfl) ?_ _
    refine NoPanic.normal ?_
    go_wp2
    go_ret
    exact ⟨rfl, NB.out.trans (HT2.out.mono NB.out.size)⟩
  | true =>
    refine RG.wpL_take (fuel := 4) (a' := ?Ad) [6, 7, 8, 9, 10] (by kernel_rfl) (by kernel_rfl) (fun _ _ _ _ _ h => h) HT2.out (fun _ => trivial) ?rd ?_
    case rd =>
      refine RG.RunsIf.weak (v := ?_) (by rfl) (by rfl) (fun Z hT => ?_) ?_
      rotate_left
      · go_simp
        rfl
      simp only [Act.put, List.setIfInBounds_toArray, List.set_cons_zero, List.set_cons_succ, List.getElem_toArray, List.getElem_cons_zero, List.getElem_cons_succ]
      refine RG.RunsIf.weak (v := .agg #[.int .i64 T.k, .int .i64 T.d, .int .i64 T.f, .int .i64 T.dp, .int .u32 T.lf, .int .i64 T.inn, .slice T.ka T.kl T.kc, .slice T.sa T.sl T.sc, .slice T.pa T.pl T.pc, .int .u64 n, .int .i64 s0, .int .u64 s1, .int .u64 s2, .int .u64 s3, .bool s4, .bool s5, .slice (some ⟨g, 0, none⟩) k cap]) (by rfl) (by rfl) (fun Z hT => exec_load_row' 53 _ (by rfl) wb (by rfl) 53 #[.int .i64 T.k, .int .i64 T.d, .int .i64 T.f, .int .i64 T.dp, .int .u32 T.lf, .int .i64 T.inn, .slice T.ka T.kl T.kc, .slice T.sa T.sl T.sc, .slice T.pa T.pl T.pc, .int .u64 n, .int .i64 s0, .int .u64 s1, .int .u64 s2, .int .u64 s3, .bool s4, .bool s5, .slice (some ⟨g, 0, none⟩) k cap] (0, 0) _ (blk_keep XW.out hT) Try.underlying53 rfl (by kernel_rfl)) ?_
      simp only [Act.put, List.setIfInBounds_toArray, List.set_cons_zero, List.set_cons_succ, List.getElem_toArray, List.getElem_cons_zero, List.getElem_cons_succ]
      refine RG.RunsIf.weak (v := ?_) (by rfl) (by rfl) (fun Z hT => ?_) ?_
      rotate_left
      · go_simp
        rfl
      simp only [Act.put, List.setIfInBounds_toArray, List.set_cons_zero, List.set_cons_succ, List.getElem_toArray, List.getElem_cons_zero, List.getElem_cons_succ]
      refine RG.RunsIf.weak (v := .slice A' nf KA') (by rfl) (by rfl) (fun Z hT => ?_) ?_
      · obtain ⟨z0, z1⟩ := cellsQ2 (blk_keep XS.out hT)
        go_simp
      simp only [Act.put, List.setIfInBounds_toArray, List.set_cons_zero, List.set_cons_succ, List.getElem_toArray, List.getElem_cons_zero, List.getElem_cons_succ]
      refine RG.RunsIf.weak (v := .agg #[.int .i64 x0, .int .u64 x1, .int .u64 F, .int .u64 E, .bool x4, .bool x5, .int .u64 C]) (by rfl) (by rfl) (fun Z hT => ?_) ?_
      · obtain ⟨y0, y1, y2, y3, y4, y5, y6⟩ := cells7 (blk_keep XF.out hT)
        go_simp
      simp only [Act.put, List.setIfInBounds_toArray, List.set_cons_zero, List.set_cons_succ, List.getElem_toArray, List.getElem_cons_zero, List.getElem_cons_succ]
      exact RG.RunsIf.nil
    refine RG.wpL_stepw (i := 11) (by kernel_rfl) (by rfl) (by rfl) (fun KX hK => ?_)
    have HK := TW.hide hK
    clear hK
    go_simp
    refine (HAF.out _).mono ?_
    rintro ex3 W3 ⟨rfl, hb⟩
    have HT3 : Hid (Below X.heap.size X W3) := HT2.out.trans (hb.mono HT2.out.size)
    refine HK.out _ _ HT3.out (fun _ => trivial) ?_
    clear HK KX hb
    try simp only [Act.put, List.setIfInBounds_toArray, List.set_cons_zero, List.set_cons_succ, List.getElem_toArray, List.getElem_cons_zero, List.getElem_cons_succ]
    refine RG.wpL_stepw (i := 12) (by kernel_rfl) (by rfl) (by rfl) (fun KX hK => ?_)
    have HK := TW.hide hK
    clear hK
    go_simp
    refine (HW2.out _ (NB.out.trans (HT3.out.mono NB.out.size))).mono ?_
    rintro ex4 W4 ⟨rfl, hb⟩
    have HT4 : Hid (Below X.heap.size X W4) := HT3.out.trans (hb.mono HT3.out.size)
    refine HK.out _ _ HT4.out (fun _ => trivial) ?_
    clear HK KX hb
    try simp only [Act.put, List.setIfInBounds_toArray, List.set_cons_zero, List.set_cons_succ, List.getElem_toArray, List.getElem_cons_zero, List.getElem_cons_succ]
    refine RG.wpL_take (fuel := 0) (a' := ?Ac) [13, 14] (by kernel_rfl) (by kernel_rfl) (fun _ _ _ _ _ h => h) HT4.out (fun _ => trivial) ?rc ?_
    case rc =>
      refine RG.RunsIf.weak (v := ?_) (by rfl) (by rfl) (fun Z hT => ?_) ?_
      rotate_left
      · go_simp
        rfl
      simp only [Act.put, List.setIfInBounds_toArray, List.set_cons_zero, List.set_cons_succ, List.getElem_toArray, List.getElem_cons_zero, List.getElem_cons_succ]
      refine RG.RunsIf.weak (v := ?_) (by rfl) (by rfl) (fun Z hT => ?_) ?_
      rotate_left
      · go_simp
        rfl
      simp only [Act.put, List.setIfInBounds_toArray, List.set_cons_zero, List.set_cons_succ, List.getElem_toArray, List.getElem_cons_zero, List.getElem_cons_succ]
      exact RG.RunsIf.nil
    refine RG.wpL_done (by kernel_rfl) ?_ _
    refine NoPanic.normal ?_
    go_wp2
    go_ret
    exact ⟨by cases b2 <;> rfl, NB.out.trans (HT4.out.mono NB.out.size)⟩
end LW
end Go.Proofs.Ytcpegipojkbcoaa
namespace Go.Proofs.Ytcpegipojkbcoaa
open Go.RowKit
set_option linter.unusedVariables false
set_option linter.unusedSimpArgs false
namespace LW
open Words
theorem bool_of (P : Prop) : ∃ b : Bool, b = true ↔ P := by
  classical
  exact ⟨decide P, by simp⟩
set_option maxRecDepth 100000 in
set_option maxHeartbeats 2000000 in
theorem eqf (T : Tr) (n : Nat) (s0 s1 s2 s3 : Int) (s4 s5 : Bool) (g k cap wb : Nat) (a : Option Addr) (m c : Nat) (ss : List Stp) (AW WF WT : Nat → Nat) (w : World) (hW : w.heap[wb]? = some (.cells #[.int .i64 T.k, .int .i64 T.d, .int .i64 T.f, .int .i64 T.dp, .int .u32 T.lf, .int .i64 T.inn, .slice T.ka T.kl T.kc, .slice T.sa T.sl T.sc, .slice T.pa T.pl T.pc, .int .u64 n, .int .i64 s0, .int .u64 s1, .int .u64 s2, .int .u64 s3, .bool s4, .bool s5, .slice (some ⟨g, 0, none⟩) k cap] 53 (0, 0))) (hF : Fk w g k AW WF WT) (hk : k ≤ 255) (hX : ∀ i, i < k → WF (i + 1) ≤ AW i ∧ AW i < WT (i + 1) ∧ WT (i + 1) < 18446744073709551616) (hS : Sts w a ss) (hB : SB ss) (hm : ss.length = m) :
    Calls Try.prog 39 #[.slice (some ⟨g, 0, none⟩) k cap, .slice a m c, (.func (.func 40) #[] #[.pointer (some ⟨wb, 0, none⟩)])] w fun e w' => ∃ b : Bool, e = .returned (.bool b) ∧ (b = true ↔ m = k ∧ ∀ i, i < k → FitS AW WF WT T.inn i (ss.getD i ([], []))) ∧ Below w.heap.size w w' := by
  have HW : Hid (∀ W, Below w.heap.size w W → W.heap[wb]? = some (.cells #[.int .i64 T.k, .int .i64 T.d, .int .i64 T.f, .int .i64 T.dp, .int .u32 T.lf, .int .i64 T.inn, .slice T.ka T.kl T.kc, .slice T.sa T.sl T.sc, .slice T.pa T.pl T.pc, .int .u64 n, .int .i64 s0, .int .u64 s1, .int .u64 s2, .int .u64 s3, .bool s4, .bool s5, .slice (some ⟨g, 0, none⟩) k cap] 53 (0, 0))) := fun W hb => blk_keep hW hb
  have HF : Hid (∀ W, Below w.heap.size w W → Fk W g k AW WF WT) := fun W hb => hF.below hb
  have HSt : Hid (∀ (W : World) (i : Nat), Below w.heap.size w W → i < m → ∃ b off A K A' K', a = some ⟨b, off, none⟩ ∧ W.cell? ⟨b, off + i * 2, none⟩ = some (.slice A (ss.getD i ([], [])).1.length K) ∧ W.cell? ⟨b, off + i * 2 + 1, none⟩ = some (.slice A' (ss.getD i ([], [])).2.length K') ∧ Ls W A (ss.getD i ([], [])).1 ∧ Ls W A' (ss.getD i ([], [])).2) := by
    intro W i hb hi
    rcases hS.below hb with h | ⟨b, off, e, hc⟩
    · rw [h] at hm; simp at hm; omega
    · obtain ⟨A, K, A', K', h1, h2, h3, h4⟩ := hc i (by omega)
      exact ⟨b, off, A, K, A', K', e, h1, h2, h3, h4⟩
  have HX := TW.hide hX
  have HB := TW.hide hB.2
  have hm1 : m ≤ 1048576 := by rw [← hm]; exact hB.1
  clear hW hF hS hX hB hm
  go_enter Try.func39, Try.ntmps39
  by_cases hmk : k = m
  · have hne : ((k : Int) != (m : Int)) = false := by simp; omega
    have HMK := TW.hide hmk
    clear hmk
    go_wp2
    go_loopw [7, 8, 9, 17] (fun x1 x2 x3 i wr => ∃ j : Nat, j ≤ k ∧ i = .int .i64 (j : Int) ∧ Hid (∀ q, q < j → FitS AW WF WT T.inn q (ss.getD q ([], []))) ∧ Below w.heap.size w wr) (fun x1 x2 x3 i wr => k - (intOf i).toNat)
    case atStart => exact ⟨0, Nat.zero_le _, rfl, TW.hide (fun q hq => by omega), Below.refl _ _⟩
    case round =>
      obtain ⟨j, hj, rfl, HQ, hB⟩ := hrel
      by_cases hlt : j < k
      · have hj1 : (j : Int) < (k : Int) := by omega
        have hj0 : (0 : Int) ≤ (j : Int) := by omega
        have hj2 : (j : Int) < (m : Int) := by have := HMK.out; omega
        obtain ⟨b, off, A, KA, A', KA', rfl, t1, t2, l1, l2⟩ := HSt.out wr j hB (by have := HMK.out; omega)
        obtain ⟨x0, x1, x4, x5, d0, d1, d2, d3, d4, d5, d6⟩ := HF.out wr hB j hlt
        obtain ⟨h1, h2, h3⟩ := HX.out j hlt
        have hFS : Hid (FitS AW WF WT T.inn j (ss.getD j ([], [])) ↔ (ss.getD j ([], [])).1.length = AW j - WF (j + 1) ∧ (ss.getD j ([], [])).2.length = WT (j + 1) - AW j - 1 ∧ AllI (ss.getD j ([], [])).1 T.inn ∧ AllI (ss.getD j ([], [])).2 T.inn) := Iff.rfl
        obtain ⟨lb1, lb2⟩ := HB.out j
        have e3 : IntKind.i64.wrap ((j : Int) + 1) = ((j + 1 : Nat) : Int) := by rw [IntKind.wrap_i64]; omega
        have HW0 := TW.hide (HW.out wr hB)
        have HLT := TW.hide hlt
        clear hlt hj
        generalize (ss.getD j ([], [])).1 = bs at *
        generalize (ss.getD j ([], [])).2 = fs at *
        obtain ⟨b1, hb1⟩ := bool_of (bs.length = AW j - WF (j + 1) ∧ AllI bs T.inn)
        obtain ⟨b2, hb2⟩ := bool_of (fs.length = WT (j + 1) - AW j - 1 ∧ AllI fs T.inn)
        have HFB : Hid (FitS AW WF WT T.inn j (ss.getD j ([], [])) ↔ (b1 && b2) = true) := by
          show _ ↔ _
          rw [hFS.out, Bool.and_eq_true, hb1, hb2]
          constructor
          · rintro ⟨q1, q2, q3, q4⟩; exact ⟨⟨q1, q3⟩, q2, q4⟩
          · rintro ⟨⟨q1, q3⟩, q2, q4⟩; exact ⟨q1, q2, q3, q4⟩
        clear hFS
        obtain ⟨nb, hnb⟩ : ∃ nb, bs.length = nb := ⟨_, rfl⟩
        obtain ⟨nf, hnf⟩ : ∃ nf, fs.length = nf := ⟨_, rfl⟩
        rw [hnb] at t1 hb1
        rw [hnf] at t2 hb2
        generalize WF (j + 1) = F at *
        generalize WT (j + 1) = E at *
        generalize AW j = C at *
        have H1 : Hid (∀ W, Below wr.heap.size wr W → Calls Try.prog 40 #[.agg #[.int .i64 x0, .int .u64 x1, .int .u64 F, .int .u64 E, .bool x4, .bool x5, .int .u64 C], .agg #[.slice A nb KA, .slice A' nf KA'], .pointer (some ⟨wb, 0, none⟩)] W fun e w' => e = .returned (.bool (b1 && b2)) ∧ Below W.heap.size W w') := fun W hWW => fits1 T n s0 s1 s2 s3 s4 s5 g k cap wb x0 x1 F E C x4 x5 A A' nb KA nf KA' bs fs W h1 h2 h3 (blk_keep HW0.out hWW) (l1.below hWW) lb1 (l2.below hWW) lb2 hnb hnf b1 b2 hb1 hb2
        clear HW0 l1 l2 lb1 lb2 hnb hnf hb1 hb2 h1 h2 h3
        generalize (b1 && b2) = bb at *
        have hA1 := (Below.refl wr.heap.size wr).alloc (Nat.le_refl _) (.cells #[.int .i64 x0, .int .u64 x1, .int .u64 F, .int .u64 E, .bool x4, .bool x5, .int .u64 C] 74)
        have hA2 := hA1.alloc hA1.size (.cells #[.slice A nb KA, .slice A' nf KA'] 65)
        have n1 := blk_alloc (o' := .cells #[.slice A nb KA, .slice A' nf KA'] 65) (heap_alloc_new wr (.cells #[.int .i64 x0, .int .u64 x1, .int .u64 F, .int .u64 E, .bool x4, .bool x5, .int .u64 C] 74))
        have n2 := heap_alloc_new (wr.alloc (.cells #[.int .i64 x0, .int .u64 x1, .int .u64 F, .int .u64 E, .bool x4, .bool x5, .int .u64 C] 74)) (.cells #[.slice A nb KA, .slice A' nf KA'] 65)
        rw [show (wr.alloc (.cells #[.int .i64 x0, .int .u64 x1, .int .u64 F, .int .u64 E, .bool x4, .bool x5, .int .u64 C] 74)).heap.size = wr.heap.size + 1 by simp] at n2
        have HA2 := TW.hide hA2
        have HB2 : Hid (Below w.heap.size w ((wr.alloc (.cells #[.int .i64 x0, .int .u64 x1, .int .u64 F, .int .u64 E, .bool x4, .bool x5, .int .u64 C] 74)).alloc (.cells #[.slice A nb KA, .slice A' nf KA'] 65))) := hB.trans (hA2.mono hB.size)
        obtain ⟨y0, y1, y2, y3, y4, y5, y6⟩ := cells7 n1
        obtain ⟨z0, z1⟩ := cellsQ2 n2
        have u1 := keepC hA1 t1
        have u2 := keepC hA1 t2
        clear n1 n2 hA1 hA2 hB t1 t2
        go_wp2_with fail
        refine (H1.out _ HA2.out).mono ?_
        rintro e1 w1 ⟨rfl, hb⟩
        have HB3 : Hid (Below w.heap.size w w1) := HB2.out.trans (hb.mono HB2.out.size)
        clear hb HA2 HB2 H1 y0 y1 y2 y3 y4 y5 y6 z0 z1 u1 u2 d0 d1 d2 d3 d4 d5 d6
        cases bb with
        | false =>
          go_wp2
          go_ret
          refine ⟨false, rfl, ⟨fun h => (by cases h), fun h => ?_⟩, HB3.out⟩
          exact absurd (HFB.out.1 (h.2 j HLT.out)) (by simp)
        | true =>
          go_wp2
          go_roundw
          case rel =>
            refine ⟨j + 1, HLT.out, by go_num, TW.hide (fun x hx => ?_), HB3.out⟩
            rcases Nat.lt_or_ge x j with h | h
            · exact HQ.out x h
            · obtain rfl : x = j := by omega
              exact HFB.out.2 (by trivial)
          case measure => simp [intOf]; have := HLT.out; omega
      · obtain rfl : j = k := by omega
        have HB3 := TW.hide hB
        clear hB
        go_wp2
        go_ret
        exact ⟨true, rfl, ⟨fun _ => ⟨HMK.out.symm, HQ.out⟩, fun _ => rfl⟩, HB3.out⟩
  · have hne : ((k : Int) != (m : Int)) = true := by simp; omega
    have HMK := TW.hide hmk
    clear hmk
    go_wp2
    go_ret
    exact ⟨false, rfl, ⟨fun h => (by cases h), fun h => absurd h.1.symm HMK.out⟩, Below.refl _ _⟩
set_option maxRecDepth 100000 in
set_option maxHeartbeats 2000000 in
theorem pfits (T : Tr) (n : Nat) (s0 s1 s2 s3 : Int) (s4 s5 : Bool) (g k cap : Nat) (a : Option Addr) (m c : Nat) (ss : List Stp) (AW WF WT : Nat → Nat) (w : World) (hF : Fk w g k AW WF WT) (hk : k ≤ 255) (hX : ∀ i, i < k → WF (i + 1) ≤ AW i ∧ AW i < WT (i + 1) ∧ WT (i + 1) < 18446744073709551616) (hS : Sts w a ss) (hB : SB ss) (hm : ss.length = m) :
    Calls Try.prog 18 #[.agg #[.int .i64 T.k, .int .i64 T.d, .int .i64 T.f, .int .i64 T.dp, .int .u32 T.lf, .int .i64 T.inn, .slice T.ka T.kl T.kc, .slice T.sa T.sl T.sc, .slice T.pa T.pl T.pc, .int .u64 n, .int .i64 s0, .int .u64 s1, .int .u64 s2, .int .u64 s3, .bool s4, .bool s5, .slice (some ⟨g, 0, none⟩) k cap], .slice a m c] w fun e w' => ∃ b : Bool, e = .returned (.bool b) ∧ (b = true ↔ m = k ∧ ∀ i, i < k → FitS AW WF WT T.inn i (ss.getD i ([], []))) ∧ Below w.heap.size w w' := by
  have n0 := heap_alloc_new w (.cells #[.int .i64 T.k, .int .i64 T.d, .int .i64 T.f, .int .i64 T.dp, .int .u32 T.lf, .int .i64 T.inn, .slice T.ka T.kl T.kc, .slice T.sa T.sl T.sc, .slice T.pa T.pl T.pc, .int .u64 n, .int .i64 s0, .int .u64 s1, .int .u64 s2, .int .u64 s3, .bool s4, .bool s5, .slice (some ⟨g, 0, none⟩) k cap] 53)
  have hb0 := (Below.refl w.heap.size w).alloc (Nat.le_refl _) (.cells #[.int .i64 T.k, .int .i64 T.d, .int .i64 T.f, .int .i64 T.dp, .int .u32 T.lf, .int .i64 T.inn, .slice T.ka T.kl T.kc, .slice T.sa T.sl T.sc, .slice T.pa T.pl T.pc, .int .u64 n, .int .i64 s0, .int .u64 s1, .int .u64 s2, .int .u64 s3, .bool s4, .bool s5, .slice (some ⟨g, 0, none⟩) k cap] 53)
  have H := TW.hide (eqf T n s0 s1 s2 s3 s4 s5 g k cap w.heap.size a m c ss AW WF WT (w.alloc (.cells #[.int .i64 T.k, .int .i64 T.d, .int .i64 T.f, .int .i64 T.dp, .int .u32 T.lf, .int .i64 T.inn, .slice T.ka T.kl T.kc, .slice T.sa T.sl T.sc, .slice T.pa T.pl T.pc, .int .u64 n, .int .i64 s0, .int .u64 s1, .int .u64 s2, .int .u64 s3, .bool s4, .bool s5, .slice (some ⟨g, 0, none⟩) k cap] 53)) n0 (hF.below hb0) hk hX (hS.below hb0) hB hm)
  have HB := TW.hide hb0
  obtain ⟨_, _, _, f0, _⟩ := cells17 n0
  obtain ⟨Z, hZ⟩ : ∃ Z, Z = (m = k ∧ ∀ i, i < k → FitS AW WF WT T.inn i (ss.getD i ([], []))) := ⟨_, rfl⟩
  rw [← hZ] at H ⊢
  have hmf : ∀ (fn : Fn) (first cap : Array Value) (w : World), (Instr.makeFunc fn first cap).run Try.prog w = .ok (.func fn first cap) w := fun _ _ _ _ => rfl
  clear n0 hb0 hF hX hS hB hm hZ
  go_enter Try.func18, Try.ntmps18
  refine wp_seq_k fun K hK => ?_
  have HK := TW.hide hK
  clear hK
  go_wp2_with fail
  refine HK.out _ _ ?_
  clear HK K
  generalize w.alloc _ = V at *
  go_wp2_with fail
  refine H.out.mono ?_
  rintro e1 w1 ⟨b, rfl, hz, hb⟩
  have HZ := TW.hide hz
  have HB3 : Hid (Below w.heap.size w w1) := HB.out.trans (hb.mono HB.out.size)
  clear hb hz
  go_wp2
  go_ret
  exact ⟨b, rfl, HZ.out, HB3.out⟩
end LW
end Go.Proofs.Ytcpegipojkbcoaa
namespace Go.Proofs.Ytcpegipojkbcoaa
open Go.RowKit
set_option linter.unusedVariables false
set_option linter.unusedSimpArgs false
namespace LW
open Words
theorem set_vs (v : Int) (n k : Nat) (h : k < n) : (vs (un v k ++ List.replicate (n - k) 0)).set k (.int .u8 (v / 2 ^ (8 * k) % 256)) = vs (un v (k + 1) ++ List.replicate (n - (k + 1)) 0) := by
  have e : n - k = n - (k + 1) + 1 := by omega
  have hp : (2 : Int) ^ (8 * k) = 256 ^ k := by rw [Int.pow_mul]; rfl
  rw [vs_append, List.set_append_right _ _ (by rw [vs_length, un_length]; omega), vs_length, un_length, Nat.sub_self, e, List.replicate_succ]
  rw [un_snoc, hp]
  simp [vs]
set_option maxHeartbeats 400000 in
theorem storeO (v : Int) (n : Nat) (w : World) (hv0 : 0 ≤ v) (hv1 : v < 18446744073709551616) (hn : n ≤ 8) :
    Calls Try.prog 42 #[.int .u64 v, .int .i64 n] w fun e w' =>
      ∃ x, e = .returned x ∧ w'.ownsRow w.heap.size 5 1 x n (vs (un v n)) ∧ Below w.heap.size w w' := by
  obtain ⟨i0, hi, hz0, hz1, hz2⟩ := info_parts info5
  go_enter Try.func42, Try.ntmps42
  go_wp2_with (at_make; refine wpList_make_full _ rfl _ _ 24 rfl w.heap.size 5 i0 (.int .u8 0) 1 Try.underlying24 hi hz0 hz1 _ _ _ _ n rfl rfl rfl rfl (by rw [hz2]; omega) (by unfold maxLen; omega) (by omega) ?_; intro w1 hown hgrow)
  have hown1 : w1.ownsRow w.heap.size 5 1 (.slice (some ⟨w.heap.size, 0, none⟩) n n) n (vs (List.replicate n 0)) := by
    rw [← made_vs]; exact hown
  have hbel : Below w.heap.size w w1 := (Below.refl _ _).grown hgrow (Nat.le_refl _) (by intro k h; cases h)
  have H1 := TW.hide hown1
  have H2 := TW.hide hbel
  clear hown hgrow hown1 hbel
  go_loopw [10] (fun i wr => ∃ k : Nat, k ≤ n ∧ i = .int .i64 k ∧ wr.ownsRow w.heap.size 5 1 (.slice (some ⟨w.heap.size, 0, none⟩) n n) n (vs (un v k ++ List.replicate (n - k) 0)) ∧ Below w.heap.size w wr) (fun i _ => n - (intOf i).toNat)
  case atStart => exact ⟨0, Nat.zero_le _, rfl, by simpa [un] using H1.out, H2.out⟩
  case round =>
    obtain ⟨k, hk, rfl, hown, hbel⟩ := hrel
    have HO := TW.hide hown
    have HB := TW.hide hbel
    clear hown hbel H1 H2
    by_cases hlt : k < n
    · have hc : ∃ z, wr.cell? ⟨w.heap.size, k, none⟩ = some z := by
        rw [HO.out.cellAt k (by omega)]
        exact ⟨_, List.getElem?_eq_getElem (by rw [vs_length]; simp [un_length]; omega)⟩
      obtain ⟨z, hc⟩ := hc
      have hf := HO.out.frozenAt k
      go_wp2
      go_roundw
      case rel => exact ⟨k + 1, by omega, by go_num, by rw [← set_vs v n k hlt]; exact (HO.out.stored k _).1, HB.out.setCell (Nat.le_refl _) _⟩
      case measure => simp [intOf]; omega
    · go_wp2
      go_ret
      obtain rfl : k = n := by omega
      have hown := HO.out
      rw [Nat.sub_self, List.replicate_zero, List.append_nil] at hown
      exact ⟨_, rfl, hown, HB.out⟩
theorem store64O (v : Int) (w : World) (hv0 : 0 ≤ v) (hv1 : v < 18446744073709551616) :
    Calls Try.prog 19 #[.int .u64 v] w fun e w' => ∃ x, e = .returned x ∧ w'.ownsRow w.heap.size 5 1 x 8 (vs (un v 8)) ∧ Below w.heap.size w w' := by
  have h := fun W => storeO v 8 W hv0 hv1 (by omega)
  have H := TW.hide h
  clear h
  go_enter Try.func19, Try.ntmps19
  go_wp2_with fail
  refine (H.out _).mono ?_
  rintro e w1 ⟨x, rfl, ho, hbel⟩
  have H1 := TW.hide ho
  have H2 := TW.hide hbel
  clear ho hbel
  go_wp2_with fail
  go_ret
  exact ⟨x, rfl, H1.out, H2.out⟩
/-- What is kept while bytes are appended to a row of one's own: all that lay below, and each block of another kind. -/
structure ApI (o w wr : World) (v : Value) (L : List Int) : Prop where
  own : wr.ownsRow o.heap.size 5 1 v L.length (vs L)
  below : Below o.heap.size o wr
  keep : ∀ (b : Nat) (cs : Array Value) (t : TypeId), t ≠ 5 → w.heap[b]? = some (.cells cs t (0, 0)) → wr.heap[b]? = some (.cells cs t (0, 0))
theorem ApI.app {o w wr w5 : World} {v v' : Value} {L zs : List Int} {m : Nat} (h : ApI o w wr v L) (hm : zs.length = m) (ho : w5.ownsRow o.heap.size 5 1 v' (L.length + m) (vs L ++ vs zs)) (hg : wr.grownBy w5 v.ownBlock) : ApI o w w5 v' (L ++ zs) := by
  refine ⟨?_, h.below.grown hg (by have := h.below.size; omega) (fun k hk => ow_block h.own k hk), fun b cs t ht hb => ?_⟩
  · rw [vs_append, List.length_append, hm]; exact ho
  · exact ow_grown (h.keep b cs t ht hb) hg (Ne.symm (row_ne (h.keep b cs t ht hb) ht h.own))
theorem ApI.self {o w wr : World} {v : Value} {L : List Int} (h : ApI o w wr v L) : ApI o wr wr v L := ⟨h.own, h.below, fun _ _ _ _ h => h⟩
theorem ApI.trans {o w wr w' : World} {v v' : Value} {L L' : List Int} (h : ApI o w wr v L) (h' : ApI o wr w' v' L') : ApI o w w' v' L' := ⟨h'.own, h'.below, fun b cs t ht hb => h'.keep b cs t ht (h.keep b cs t ht hb)⟩
theorem ApI.step {o w wr w' : World} {v : Value} {L : List Int} (h : ApI o w wr v L) (hb : Below wr.heap.size wr w') : ApI o w w' v L := ⟨ow_below h.own hb, h.below.trans (hb.mono h.below.size), fun b cs t ht h0 => blk_keep (h.keep b cs t ht h0) hb⟩
set_option maxRecDepth 100000 in
set_option maxHeartbeats 2000000 in
theorem appAll (o : World) (v : Value) (L : List Int) (A : Option Addr) (nl KA m : Nat) (ls : List (List Int)) (w : World) (h0 : ApI o w w v L) (hL : Ls o A ls) (hn : ls.length = nl) (hn2 : nl ≤ 1048576) (hm1 : 1 ≤ m) (hA : ∀ r, r < nl → (ls.getD r []).length = m) (hlen : L.length + ls.flatten.length ≤ 4194304) :
    Calls Try.prog 20 #[v, .slice A nl KA] w fun e w' => ∃ v', e = .returned v' ∧ ApI o w w' v' (L ++ ls.flatten) := by
  have HL : Hid (∀ W, Below o.heap.size o W → Ls W A ls) := fun W hW => hL.below hW
  have HA := TW.hide hA
  have HN := TW.hide hn
  have HM1 := TW.hide hm1
  have HLE := TW.hide hlen
  have H0 := TW.hide h0
  obtain ⟨i5, hi5, hz50, hz51, hz52⟩ := info_parts info5
  clear hL hA hn hm1 hlen h0
  go_enter Try.func20, Try.ntmps20
  go_wp2
  go_loopw [0, 6, 9] (fun x d i wr => ∃ r : Nat, r ≤ nl ∧ i = .int .i64 (r : Int) ∧ ApI o w wr x (L ++ (ls.take r).flatten)) (fun x d i wr => nl - (intOf i).toNat)
  case atStart => exact ⟨0, Nat.zero_le _, rfl, by simpa using H0.out⟩
  case round =>
    obtain ⟨r, hr, rfl, hi⟩ := hrel
    have HP := TW.hide hi
    clear hi
    by_cases hrl : r < nl
    · have hrI : (r : Int) < (nl : Int) := by omega
      have hr0 : (0 : Int) ≤ (r : Int) := by omega
      obtain ⟨bb, ob, rfl, Ar, Kr, hcr, hrr⟩ : ∃ bb ob, A = some ⟨bb, ob, none⟩ ∧ ∃ Ar Kr, wr.cell? ⟨bb, ob + r, none⟩ = some (.slice Ar (ls.getD r []).length Kr) ∧ Row wr Ar (ls.getD r []) := by
        rcases HL.out wr HP.out.below with h | ⟨bb, ob, e, hc⟩
        · exfalso; have := HN.out; rw [h] at this; simp at this; omega
        · obtain ⟨Ar, Kr, h1, h2⟩ := hc r (by rw [HN.out]; exact hrl)
          exact ⟨bb, ob, e, Ar, Kr, h1, h2⟩
      have hlr := HA.out r hrl
      have HSN := TW.hide (flat_snoc ls r (by rw [HN.out]; exact hrl))
      have hle := flat_le ls (r + 1)
      rw [HSN.out, List.length_append] at hle
      obtain ⟨zs, hzs⟩ : ∃ zs, ls.getD r [] = zs := ⟨_, rfl⟩
      rw [hzs] at hcr hlr hrr HSN hle
      clear hzs
      obtain ⟨b3, o3, rfl, hrr⟩ : ∃ b3 o3, Ar = some ⟨b3, o3, none⟩ ∧ Row wr (some ⟨b3, o3, none⟩) zs := by
        rcases hrr with h | ⟨b3, o3, e, hc⟩
        · rw [h] at hlr; simp at hlr; have := HM1.out; omega
        · exact ⟨b3, o3, e, .inr ⟨b3, o3, rfl, hc⟩⟩
      have HRR := TW.hide hrr
      have HLR := TW.hide hlr
      have HTL : Hid ((L ++ (ls.take r).flatten).length + m ≤ 4194304) := by
        show _ ≤ _
        simp only [List.length_append]
        have := HLE.out
        omega
      rw [hlr] at hcr
      clear hrr hlr hle
      obtain ⟨L1, hL1⟩ : ∃ L1, L ++ (ls.take r).flatten = L1 := ⟨_, rfl⟩
      have HLL := TW.hide hL1
      rw [hL1] at HP HTL
      clear hL1
      go_wp2_with (at_builtin; refine wpList_append_own _ rfl _ _ 24 rfl o.heap.size 5 i5 (.int .u8 0) 1 1 Try.underlying24 hi5 hz50 hz51 hz52 rfl (by decide) _ L1.length (vs L1) rfl HP.out.own ⟨b3, o3, none⟩ m Kr (vs zs) rfl (by rw [vs_length, HLR.out, Nat.mul_one]) (rowCs HRR.out) (onesV zs) (by have := HTL.out; unfold maxLen; omega) (by have := HTL.out; omega) HP.out.below.size ?_; intro v' w5 hown' hgrow _; have HO5 := TW.hide (HP.out.app HLR.out hown' hgrow); clear hown' hgrow)
      go_wp2
      go_roundw
      case rel =>
        refine ⟨r + 1, by omega, by go_num, ?_⟩
        rw [HSN.out, ← List.append_assoc, HLL.out]
        exact HO5.out
      case measure => simp [intOf]; omega
    · obtain rfl : r = nl := by omega
      have HE : Hid (ApI o w wr u0 (L ++ ls.flatten)) := by
        have h := HP.out
        rw [List.take_of_length_le (by rw [HN.out]; exact Nat.le_refl _)] at h
        exact h
      clear HP
      go_wp2
      go_ret
      exact ⟨_, rfl, HE.out⟩
end LW
end Go.Proofs.Ytcpegipojkbcoaa
