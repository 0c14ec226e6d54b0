/-
  What wide and fits of the program give.
-/
import Derived.Test.YtflaanigdknlcaaPFDS
import Derived.Test.YtflaanigdknlcaaFits
import Derived.Test.YtflaanigdknlcaaOrder
import Derived.Test.YtflaanigdknlcaaSh6
namespace Go.Proofs.Ytflaanigdknlcaa
open Go.RowKit
set_option linter.unusedVariables false
set_option linter.unusedSimpArgs false
namespace LW
open Words
set_option maxRecDepth 100000 in
set_option maxHeartbeats 2000000 in
theorem wide_ (T : Tr) (n : Nat) (s0 s1 s2 s3 : Int) (s4 s5 : Bool) (g k cap : Nat) (A : Option Addr) (KA : Nat) (ls : List (List Int)) (q : Nat) (w : World) (hL : Ls w A ls) (hB : LB ls) (hq : q < 18446744073709551616) :
    Calls Try.prog 41 #[.agg #[.int .i64 T.k, .int .i64 T.d, .int .i64 T.f, .int .i64 T.dp, .int .u32 T.lf, .int .i64 T.inn, .slice T.ka T.kl T.kc, .slice T.sa T.sl T.sc, .slice T.pa T.pl T.pc, .int .u64 n, .int .i64 s0, .int .u64 s1, .int .u64 s2, .int .u64 s3, .bool s4, .bool s5, .slice (some ⟨g, 0, none⟩) k cap], .slice A ls.length KA, .int .u64 q] w fun e w' => ∃ b : Bool, e = .returned (.bool b) ∧ (b = true ↔ ls.length = q ∧ AllI ls T.inn) ∧ Below w.heap.size w w' := by
  have hl1 := hB.1
  have GB := TW.hide hB.2
  have n0 := heap_alloc_new w (.cells #[.int .i64 T.k, .int .i64 T.d, .int .i64 T.f, .int .i64 T.dp, .int .u32 T.lf, .int .i64 T.inn, .slice T.ka T.kl T.kc, .slice T.sa T.sl T.sc, .slice T.pa T.pl T.pc, .int .u64 n, .int .i64 s0, .int .u64 s1, .int .u64 s2, .int .u64 s3, .bool s4, .bool s5, .slice (some ⟨g, 0, none⟩) k cap] 53)
  have hb0 := (Below.refl w.heap.size w).alloc (Nat.le_refl _) (.cells #[.int .i64 T.k, .int .i64 T.d, .int .i64 T.f, .int .i64 T.dp, .int .u32 T.lf, .int .i64 T.inn, .slice T.ka T.kl T.kc, .slice T.sa T.sl T.sc, .slice T.pa T.pl T.pc, .int .u64 n, .int .i64 s0, .int .u64 s1, .int .u64 s2, .int .u64 s3, .bool s4, .bool s5, .slice (some ⟨g, 0, none⟩) k cap] 53)
  have B0 := TW.hide hb0
  have HL := TW.hide (hL.below hb0)
  obtain ⟨⟨_, _, _, _, _, c5, _⟩, _⟩ := cells17 n0
  obtain ⟨m, hm⟩ : ∃ m, ls.length = m := ⟨_, rfl⟩
  have HM := TW.hide hm
  rw [hm] at hl1
  simp only [hm]
  have HAI : Hid (AllI ls T.inn ↔ ∀ r, r < m → ((ls.getD r []).length : Int) = T.inn) := by
    show _ ↔ _
    rw [← hm]; rfl
  generalize AllI ls T.inn = AI at *
  clear n0 hb0 hL hB hm
  have e1 : IntKind.u64.wrap (m : Int) = (m : Int) := by rw [IntKind.wrap_u64]; omega
  go_enter Try.func41, Try.ntmps41
  refine wp_seq_k fun K hK => ?_
  have HK := TW.hide hK
  clear hK
  go_wp2_with fail
  refine HK.out _ _ ?_
  clear HK K
  generalize w.alloc _ = X at *
  by_cases hmq : m = q
  · have hne : ((m : Int) != (q : Int)) = false := by simp; omega
    have HMQ := TW.hide hmq
    clear hmq
    go_wp2
    go_loopw [8, 16] (fun x i wr => ∃ r : Nat, r ≤ m ∧ i = .int .i64 (r : Int) ∧ Hid (∀ x, x < r → ((ls.getD x []).length : Int) = T.inn) ∧ wr = X) (fun x i wr => m - (intOf i).toNat)
    case atStart => exact ⟨0, Nat.zero_le _, rfl, TW.hide (fun x hx => by omega), rfl⟩
    case round =>
      obtain ⟨r, hr, rfl, HAL, rfl⟩ := hrel
      by_cases hrl : r < m
      · have hrI : (r : Int) < (m : Int) := by omega
        have hr0 : (0 : Int) ≤ (r : Int) := by omega
        obtain ⟨bb, ob, rfl, Ar, Kr, hcr⟩ : ∃ bb ob, A = some ⟨bb, ob, none⟩ ∧ ∃ Ar Kr, wr.cell? ⟨bb, ob + r, none⟩ = some (.slice Ar (ls.getD r []).length Kr) := by
          rcases HL.out with h | ⟨bb, ob, e, hc⟩
          · exfalso; have := HM.out; rw [h] at this; simp at this; omega
          · obtain ⟨Ar, Kr, h1, _⟩ := hc r (by rw [HM.out]; exact hrl)
            exact ⟨bb, ob, e, Ar, Kr, h1⟩
        have hlr := GB.out r
        obtain ⟨lr, hlre⟩ : ∃ lr, (ls.getD r []).length = lr := ⟨_, rfl⟩
        have HLR := TW.hide hlre
        rw [hlre] at hcr hlr
        clear hlre
        have e3 : IntKind.i64.wrap ((r : Int) + 1) = ((r + 1 : Nat) : Int) := by rw [IntKind.wrap_i64]; omega
        obtain ⟨bq, hbq⟩ : ∃ bq, ((lr : Int) != T.inn) = bq := ⟨_, rfl⟩
        cases bq with
        | true =>
          go_wp2
          go_ret
          refine ⟨false, rfl, ⟨fun h => (by cases h), fun h => ?_⟩, B0.out⟩
          have := HAI.out.1 h.2 r hrl
          rw [HLR.out] at this
          simp [this] at hbq
        | false =>
          have hle : (lr : Int) = T.inn := by simpa using hbq
          have HLE := TW.hide hle
          clear hle
          go_wp2
          go_roundw
          case rel =>
            refine ⟨r + 1, by omega, by go_num, TW.hide (fun x hx => ?_), by trivial⟩
            rcases Nat.lt_or_ge x r with h | h
            · exact HAL.out x h
            · obtain rfl : x = r := by omega
              rw [HLR.out]; exact HLE.out
          case measure => simp [intOf]; omega
      · obtain rfl : r = m := by omega
        go_wp2
        go_ret
        exact ⟨true, rfl, ⟨fun _ => ⟨HMQ.out, HAI.out.2 HAL.out⟩, fun _ => rfl⟩, B0.out⟩
  · have hne : ((m : Int) != (q : Int)) = true := by simp; omega
    have HMQ := TW.hide hmq
    clear hmq
    go_wp2
    go_ret
    exact ⟨false, rfl, ⟨fun h => (by cases h), fun h => absurd h.1 HMQ.out⟩, B0.out⟩
theorem wideB (T : Tr) (n : Nat) (s0 s1 s2 s3 : Int) (s4 s5 : Bool) (g k cap : Nat) (A : Option Addr) (KA : Nat) (ls : List (List Int)) (q m : Nat) (w : World) (hL : Ls w A ls) (hB : LB ls) (hq : q < 18446744073709551616) (hm : ls.length = m) (b : Bool) (hb : b = true ↔ m = q ∧ AllI ls T.inn) :
    Calls Try.prog 41 #[.agg #[.int .i64 T.k, .int .i64 T.d, .int .i64 T.f, .int .i64 T.dp, .int .u32 T.lf, .int .i64 T.inn, .slice T.ka T.kl T.kc, .slice T.sa T.sl T.sc, .slice T.pa T.pl T.pc, .int .u64 n, .int .i64 s0, .int .u64 s1, .int .u64 s2, .int .u64 s3, .bool s4, .bool s5, .slice (some ⟨g, 0, none⟩) k cap], .slice A m KA, .int .u64 q] w fun e w' => e = .returned (.bool b) ∧ Below w.heap.size w w' := by
  subst hm
  refine (wide_ T n s0 s1 s2 s3 s4 s5 g k cap A KA ls q w hL hB hq).mono ?_
  rintro e w' ⟨x, rfl, hx, hbb⟩
  have : x = b := by rw [Bool.eq_iff_iff, hx, hb]
  rw [this]
  exact ⟨rfl, hbb⟩
theorem keepC {V W : World} (hb : Below V.heap.size V W) {p o : Nat} {u : Value} (h : V.cell? ⟨p, o, none⟩ = some u) : W.cell? ⟨p, o, none⟩ = some u := by
  rw [hb.cell (lt_of_cell h)]; exact h
set_option maxRecDepth 100000 in
set_option maxHeartbeats 2000000 in
theorem fits1 (T : Tr) (n : Nat) (s0 s1 s2 s3 : Int) (s4 s5 : Bool) (g k cap wb : Nat) (x0 : Int) (x1 F E C : Nat) (x4 x5 : Bool) (A A' : Option Addr) (nb KA nf KA' : Nat) (bs fs : List (List Int)) (w : World) (h1 : F ≤ C) (h2 : C < E) (h3 : E < 18446744073709551616) (hW : w.heap[wb]? = some (.cells #[.int .i64 T.k, .int .i64 T.d, .int .i64 T.f, .int .i64 T.dp, .int .u32 T.lf, .int .i64 T.inn, .slice T.ka T.kl T.kc, .slice T.sa T.sl T.sc, .slice T.pa T.pl T.pc, .int .u64 n, .int .i64 s0, .int .u64 s1, .int .u64 s2, .int .u64 s3, .bool s4, .bool s5, .slice (some ⟨g, 0, none⟩) k cap] 53 (0, 0))) (hL : Ls w A bs) (hB : LB bs) (hL' : Ls w A' fs) (hB' : LB fs) (hn : bs.length = nb) (hn' : fs.length = nf) (b1 b2 : Bool) (hb1 : b1 = true ↔ nb = C - F ∧ AllI bs T.inn) (hb2 : b2 = true ↔ nf = E - C - 1 ∧ AllI fs T.inn) :
    Calls Try.prog 40 #[.agg #[.int .i64 x0, .int .u64 x1, .int .u64 F, .int .u64 E, .bool x4, .bool x5, .int .u64 C], .agg #[.slice A nb KA, .slice A' nf KA'], .pointer (some ⟨wb, 0, none⟩)] w fun e w' => e = .returned (.bool (b1 && b2)) ∧ Below w.heap.size w w' := by
  have HW1 : Hid (∀ W, Below w.heap.size w W → Calls Try.prog 41 #[.agg #[.int .i64 T.k, .int .i64 T.d, .int .i64 T.f, .int .i64 T.dp, .int .u32 T.lf, .int .i64 T.inn, .slice T.ka T.kl T.kc, .slice T.sa T.sl T.sc, .slice T.pa T.pl T.pc, .int .u64 n, .int .i64 s0, .int .u64 s1, .int .u64 s2, .int .u64 s3, .bool s4, .bool s5, .slice (some ⟨g, 0, none⟩) k cap], .slice A nb KA, .int .u64 (C - F : Nat)] W fun e w' => e = .returned (.bool b1) ∧ Below W.heap.size W w') := fun W hWW => wideB T n s0 s1 s2 s3 s4 s5 g k cap A KA bs (C - F) nb W (hL.below hWW) hB (by omega) hn b1 hb1
  have HW2 : Hid (∀ W, Below w.heap.size w W → Calls Try.prog 41 #[.agg #[.int .i64 T.k, .int .i64 T.d, .int .i64 T.f, .int .i64 T.dp, .int .u32 T.lf, .int .i64 T.inn, .slice T.ka T.kl T.kc, .slice T.sa T.sl T.sc, .slice T.pa T.pl T.pc, .int .u64 n, .int .i64 s0, .int .u64 s1, .int .u64 s2, .int .u64 s3, .bool s4, .bool s5, .slice (some ⟨g, 0, none⟩) k cap], .slice A' nf KA', .int .u64 (E - C - 1 : Nat)] W fun e w' => e = .returned (.bool b2) ∧ Below W.heap.size W w') := fun W hWW => wideB T n s0 s1 s2 s3 s4 s5 g k cap A' KA' fs (E - C - 1) nf W (hL'.below hWW) hB' (by omega) hn' b2 hb2
  have HBF := TW.hide (fun W => before_ x0 x1 F E C x4 x5 h1 h2 h3 W)
  have HAF := TW.hide (fun W => after_ x0 x1 F E C x4 x5 h1 h2 h3 W)
  clear hL hB hL' hB' hn hn' hb1 hb2 h1 h2 h3
  generalize C - F = q1 at *
  generalize E - C - 1 = q2 at *
  have n0 := heap_alloc_new w (.cells #[.int .i64 x0, .int .u64 x1, .int .u64 F, .int .u64 E, .bool x4, .bool x5, .int .u64 C] 74)
  have n1 := heap_alloc_new (w.alloc (.cells #[.int .i64 x0, .int .u64 x1, .int .u64 F, .int .u64 E, .bool x4, .bool x5, .int .u64 C] 74)) (.cells #[.slice A nb KA, .slice A' nf KA'] 65)
  rw [show (w.alloc (.cells #[.int .i64 x0, .int .u64 x1, .int .u64 F, .int .u64 E, .bool x4, .bool x5, .int .u64 C] 74)).heap.size = w.heap.size + 1 by simp] at n1
  have n0 := blk_alloc (o' := .cells #[.slice A nb KA, .slice A' nf KA'] 65) n0
  have nW := blk_alloc (o' := .cells #[.slice A nb KA, .slice A' nf KA'] 65) (blk_alloc (o' := .cells #[.int .i64 x0, .int .u64 x1, .int .u64 F, .int .u64 E, .bool x4, .bool x5, .int .u64 C] 74) hW)
  have hb0 := ((Below.refl w.heap.size w).alloc (Nat.le_refl _) (.cells #[.int .i64 x0, .int .u64 x1, .int .u64 F, .int .u64 E, .bool x4, .bool x5, .int .u64 C] 74))
  have hb1 := hb0.alloc hb0.size (.cells #[.slice A nb KA, .slice A' nf KA'] 65)
  have NB := TW.hide hb1
  have XW := TW.hide nW
  have XF := TW.hide n0
  have XS := TW.hide n1
  clear n0 n1 nW hb0 hb1 hW
  go_enter Try.func40, Try.ntmps40
  refine wp_seq_k fun K hK => ?_
  have HK := TW.hide hK
  clear hK
  go_wp2_with fail
  refine HK.out _ _ ?_
  clear HK K
  generalize (w.alloc _).alloc _ = X at *
  have HX0 : Hid (Below X.heap.size X X) := Below.refl _ _
  go_wp2
  refine wp_region_noPanic ?_
  refine RG.wp_region_L (fun Z => True) (fun Z => Below X.heap.size X Z) [] (by kernel_rfl) ?_
  refine RG.wpL_any fun Ya hY => ?_
  have HTa : Hid (Below X.heap.size X Ya) := by rw [hY]; exact below_drewN HX0.out 1
  clear hY
  refine RG.wpL_take (fuel := 11) (a' := ?Aa) [0, 1, 2, 3] (by kernel_rfl) (by kernel_rfl) (fun _ _ _ _ _ h => h) HTa.out (fun _ => trivial) ?ra ?_
  case ra =>
    refine RG.RunsIf.weak (v := .agg #[.int .i64 T.k, .int .i64 T.d, .int .i64 T.f, .int .i64 T.dp, .int .u32 T.lf, .int .i64 T.inn, .slice T.ka T.kl T.kc, .slice T.sa T.sl T.sc, .slice T.pa T.pl T.pc, .int .u64 n, .int .i64 s0, .int .u64 s1, .int .u64 s2, .int .u64 s3, .bool s4, .bool s5, .slice (some ⟨g, 0, none⟩) k cap]) (by rfl) (by rfl) (fun Z hT => exec_load_row' 53 _ (by rfl) wb (by rfl) 53 #[.int .i64 T.k, .int .i64 T.d, .int .i64 T.f, .int .i64 T.dp, .int .u32 T.lf, .int .i64 T.inn, .slice T.ka T.kl T.kc, .slice T.sa T.sl T.sc, .slice T.pa T.pl T.pc, .int .u64 n, .int .i64 s0, .int .u64 s1, .int .u64 s2, .int .u64 s3, .bool s4, .bool s5, .slice (some ⟨g, 0, none⟩) k cap] (0, 0) _ (blk_keep XW.out hT) Try.underlying53 rfl (by kernel_rfl)) ?_
    simp only [Act.put, List.setIfInBounds_toArray, List.set_cons_zero, List.set_cons_succ, List.getElem_toArray, List.getElem_cons_zero, List.getElem_cons_succ]
    refine RG.RunsIf.weak (v := ?_) (by rfl) (by rfl) (fun Z hT => ?_) ?_
    rotate_left
    · go_simp
      rfl
    simp only [Act.put, List.setIfInBounds_toArray, List.set_cons_zero, List.set_cons_succ, List.getElem_toArray, List.getElem_cons_zero, List.getElem_cons_succ]
    refine RG.RunsIf.weak (v := .slice A nb KA) (by rfl) (by rfl) (fun Z hT => ?_) ?_
    · obtain ⟨z0, z1⟩ := cellsQ2 (blk_keep XS.out hT)
      go_simp
    simp only [Act.put, List.setIfInBounds_toArray, List.set_cons_zero, List.set_cons_succ, List.getElem_toArray, List.getElem_cons_zero, List.getElem_cons_succ]
    refine RG.RunsIf.weak (v := .agg #[.int .i64 x0, .int .u64 x1, .int .u64 F, .int .u64 E, .bool x4, .bool x5, .int .u64 C]) (by rfl) (by rfl) (fun Z hT => ?_) ?_
    · obtain ⟨y0, y1, y2, y3, y4, y5, y6⟩ := cells7 (blk_keep XF.out hT)
      go_simp
    simp only [Act.put, List.setIfInBounds_toArray, List.set_cons_zero, List.set_cons_succ, List.getElem_toArray, List.getElem_cons_zero, List.getElem_cons_succ]
    exact RG.RunsIf.nil
  refine RG.wpL_step (i := 4) (by kernel_rfl) (by rfl) (by rfl) (fun KX hK => ?_)
  have HK := TW.hide hK
  clear hK
  go_simp
  refine (HBF.out _).mono ?_
  rintro ex1 W1 ⟨rfl, hb⟩
  have HT1 : Hid (Below X.heap.size X W1) := HTa.out.trans (hb.mono HTa.out.size)
  refine HK.out _ _ HT1.out (fun _ => trivial) ?_
  clear HK KX hb
  try simp only [Act.put, List.setIfInBounds_toArray, List.set_cons_zero, List.set_cons_succ, List.getElem_toArray, List.getElem_cons_zero, List.getElem_cons_succ]
  refine RG.wpL_step (i := 5) (by kernel_rfl) (by rfl) (by rfl) (fun KX hK => ?_)
  have HK := TW.hide hK
  clear hK
  go_simp
  refine (HW1.out _ (NB.out.trans (HT1.out.mono NB.out.size))).mono ?_
  rintro ex2 W2 ⟨rfl, hb⟩
  have HT2 : Hid (Below X.heap.size X W2) := HT1.out.trans (hb.mono HT1.out.size)
  refine HK.out _ _ HT2.out (fun _ => trivial) ?_
  clear HK KX hb
  try simp only [Act.put, List.setIfInBounds_toArray, List.set_cons_zero, List.set_cons_succ, List.getElem_toArray, List.getElem_cons_zero, List.getElem_cons_succ]
  cases b1 with
  | false =>
    refine RG.wpL_take (fuel := 0) (a' := ?Ab) [6, 7, 8, 9, 10, 11, 12, 13, 14] (by kernel_rfl) (by kernel_rfl) (fun _ _ _ _ _ h => h) HT2.out (fun _ => trivial) ?rb ?_
    case rb =>
      refine RG.RunsIf.weak (v := ?_) (by rfl) (by rfl) (fun Z hT => ?_) ?_
      rotate_left
      · go_simp
        rfl
      simp only [Act.put, List.setIfInBounds_toArray, List.set_cons_zero, List.set_cons_succ, List.getElem_toArray, List.getElem_cons_zero, List.getElem_cons_succ]
      refine RG.RunsIf.skip (by rfl) (by rfl) ?_
      refine RG.RunsIf.skip (by rfl) (by rfl) ?_
      refine RG.RunsIf.skip (by rfl) (by rfl) ?_
      refine RG.RunsIf.skip (by rfl) (by rfl) ?_
      refine RG.RunsIf.skip (by rfl) (by rfl) ?_
      refine RG.RunsIf.skip (by rfl) (by rfl) ?_
      refine RG.RunsIf.weak (v := ?_) (by rfl) (by rfl) (fun Z hT => ?_) ?_
      rotate_left
      · go_simp
        rfl
      simp only [Act.put, List.setIfInBounds_toArray, List.set_cons_zero, List.set_cons_succ, List.getElem_toArray, List.getElem_cons_zero, List.getElem_cons_succ]
      refine RG.RunsIf.weak (v := ?_) (by rfl) (by rfl) (fun Z hT => ?_) ?_
      rotate_left
      · go_simp
        rfl
      simp only [Act.put, List.setIfInBounds_toArray, List.set_cons_zero, List.set_cons_succ, List.getElem_toArray, List.getElem_cons_zero, List.getElem_cons_succ]
      exact RG.RunsIf.nil
    refine RG.wpL_done (by kernel_rfl) ?_ _
    refine NoPanic.normal ?_
    go_wp2
    go_ret
    exact ⟨rfl, NB.out.trans (HT2.out.mono NB.out.size)⟩
  | true =>
    refine RG.wpL_take (fuel := 4) (a' := ?Ad) [6, 7, 8, 9, 10] (by kernel_rfl) (by kernel_rfl) (fun _ _ _ _ _ h => h) HT2.out (fun _ => trivial) ?rd ?_
    case rd =>
      refine RG.RunsIf.weak (v := ?_) (by rfl) (by rfl) (fun Z hT => ?_) ?_
      rotate_left
      · go_simp
        rfl
      simp only [Act.put, List.setIfInBounds_toArray, List.set_cons_zero, List.set_cons_succ, List.getElem_toArray, List.getElem_cons_zero, List.getElem_cons_succ]
      refine RG.RunsIf.weak (v := .agg #[.int .i64 T.k, .int .i64 T.d, .int .i64 T.f, .int .i64 T.dp, .int .u32 T.lf, .int .i64 T.inn, .slice T.ka T.kl T.kc, .slice T.sa T.sl T.sc, .slice T.pa T.pl T.pc, .int .u64 n, .int .i64 s0, .int .u64 s1, .int .u64 s2, .int .u64 s3, .bool s4, .bool s5, .slice (some ⟨g, 0, none⟩) k cap]) (by rfl) (by rfl) (fun Z hT => exec_load_row' 53 _ (by rfl) wb (by rfl) 53 #[.int .i64 T.k, .int .i64 T.d, .int .i64 T.f, .int .i64 T.dp, .int .u32 T.lf, .int .i64 T.inn, .slice T.ka T.kl T.kc, .slice T.sa T.sl T.sc, .slice T.pa T.pl T.pc, .int .u64 n, .int .i64 s0, .int .u64 s1, .int .u64 s2, .int .u64 s3, .bool s4, .bool s5, .slice (some ⟨g, 0, none⟩) k cap] (0, 0) _ (blk_keep XW.out hT) Try.underlying53 rfl (by kernel_rfl)) ?_
      simp only [Act.put, List.setIfInBounds_toArray, List.set_cons_zero, List.set_cons_succ, List.getElem_toArray, List.getElem_cons_zero, List.getElem_cons_succ]
      refine RG.RunsIf.weak (v := ?_) (by rfl) (by rfl) (fun Z hT => ?_) ?_
      rotate_left
      · go_simp
        rfl
      simp only [Act.put, List.setIfInBounds_toArray, List.set_cons_zero, List.set_cons_succ, List.getElem_toArray, List.getElem_cons_zero, List.getElem_cons_succ]
      refine RG.RunsIf.weak (v := .slice A' nf KA') (by rfl) (by rfl) (fun Z hT => ?_) ?_
      · obtain ⟨z0, z1⟩ := cellsQ2 (blk_keep XS.out hT)
        go_simp
      simp only [Act.put, List.setIfInBounds_toArray, List.set_cons_zero, List.set_cons_succ, List.getElem_toArray, List.getElem_cons_zero, List.getElem_cons_succ]
      refine RG.RunsIf.weak (v := .agg #[.int .i64 x0, .int .u64 x1, .int .u64 F, .int .u64 E, .bool x4, .bool x5, .int .u64 C]) (by rfl) (by rfl) (fun Z hT => ?_) ?_
      · obtain ⟨y0, y1, y2, y3, y4, y5, y6⟩ := cells7 (blk_keep XF.out hT)
        go_simp
      simp only [Act.put, List.setIfInBounds_toArray, List.set_cons_zero, List.set_cons_succ, List.getElem_toArray, List.getElem_cons_zero, List.getElem_cons_succ]
      exact RG.RunsIf.nil
    refine RG.wpL_stepw (i := 11) (by kernel_rfl) (by rfl) (by rfl) (fun KX hK => ?_)
    have HK := TW.hide hK
    clear hK
    go_simp
    refine (HAF.out _).mono ?_
    rintro ex3 W3 ⟨rfl, hb⟩
    have HT3 : Hid (Below X.heap.size X W3) := HT2.out.trans (hb.mono HT2.out.size)
    refine HK.out _ _ HT3.out (fun _ => trivial) ?_
    clear HK KX hb
    try simp only [Act.put, List.setIfInBounds_toArray, List.set_cons_zero, List.set_cons_succ, List.getElem_toArray, List.getElem_cons_zero, List.getElem_cons_succ]
    refine RG.wpL_stepw (i := 12) (by kernel_rfl) (by rfl) (by rfl) (fun KX hK => ?_)
    have HK := TW.hide hK
    clear hK
    go_simp
    refine (HW2.out _ (NB.out.trans (HT3.out.mono NB.out.size))).mono ?_
    rintro ex4 W4 ⟨rfl, hb⟩
    have HT4 : Hid (Below X.heap.size X W4) := HT3.out.trans (hb.mono HT3.out.size)
    refine HK.out _ _ HT4.out (fun _ => trivial) ?_
    clear HK KX hb
    try simp only [Act.put, List.setIfInBounds_toArray, List.set_cons_zero, List.set_cons_succ, List.getElem_toArray, List.getElem_cons_zero, List.getElem_cons_succ]
    refine RG.wpL_take (fuel := 0) (a' := ?Ac) [13, 14] (by kernel_rfl) (by kernel_rfl) (fun _ _ _ _ _ h => h) HT4.out (fun _ => trivial) ?rc ?_
    case rc =>
      refine RG.RunsIf.weak (v := ?_) (by rfl) (by rfl) (fun Z hT => ?_) ?_
      rotate_left
      · go_simp
        rfl
      simp only [Act.put, List.setIfInBounds_toArray, List.set_cons_zero, List.set_cons_succ, List.getElem_toArray, List.getElem_cons_zero, List.getElem_cons_succ]
      refine RG.RunsIf.weak (v := ?_) (by rfl) (by rfl) (fun Z hT => ?_) ?_
      rotate_left
      · go_simp
        rfl
      simp only [Act.put, List.setIfInBounds_toArray, List.set_cons_zero, List.set_cons_succ, List.getElem_toArray, List.getElem_cons_zero, List.getElem_cons_succ]
      exact RG.RunsIf.nil
    refine RG.wpL_done (by kernel_rfl) ?_ _
    refine NoPanic.normal ?_
    go_wp2
    go_ret
    exact ⟨by cases b2 <;> rfl, NB.out.trans (HT4.out.mono NB.out.size)⟩
end LW
end Go.Proofs.Ytflaanigdknlcaa
