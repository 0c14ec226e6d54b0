/-
  The law on parameters.
-/
import Derived.Test.YtahmjdnnkifmnaaRPaPr
import Derived.Test.YtahmjdnnkifmnaaSame
namespace Go.Proofs.Ytahmjdnnkifmnaa
open Go.RowKit
set_option linter.unusedVariables false
set_option linter.unusedSimpArgs false
namespace LW
open Words
/-- Where a list of one's own lies, and that its cells are bytes. -/
theorem sp_own {w : World} {B : Nat} {v : Value} {S : List Int} (h : w.ownsRow B 5 1 v S.length (vs S)) : ∃ b1, 0 < S.length → ∃ cap cs, v = .slice (some ⟨b1, 0, none⟩) S.length cap ∧ B ≤ b1 ∧ b1 < w.heap.size ∧ w.heap[b1]? = some (.cells cs 5 (0, 0)) ∧ ∀ j, j < S.length → ∃ z, cs[j]? = some (.int .u8 z) := by
  have h0 := h
  rcases h.2 with ⟨rfl, h0⟩ | ⟨g, cap, cur, rfl, hg, hh, hr⟩
  · exact ⟨0, fun h => by omega⟩
  · refine ⟨g, fun _ => ⟨cap, cur, rfl, hg, (Array.getElem?_eq_some_iff.1 hh).1, hh, fun j hj => ⟨S.getD j 0, ?_⟩⟩⟩
    have h1 := h0.cellAt j (by omega)
    rw [vs_get S j hj] at h1
    rw [← h1]
    simp [World.cell?, hh]
/-- What a spoiled world keeps: block B, and all from block g on. -/
def Spl (B g : Nat) (w V wr : World) : Prop := (∀ j, j = B ∨ g ≤ j → wr.heap[j]? = V.heap[j]?) ∧ Below B w wr
theorem Spl.set {B g b1 k : Nat} {w V wr : World} {u : Value} (h : Spl B g w V wr) (h1 : B < b1) (h2 : b1 < g) : Spl B g w V (wr.setCell ⟨b1, k, none⟩ u) :=
  ⟨fun j hj => by rw [Below.heap_setCell _ _ _ j (by rcases hj with h | h <;> (simp; omega))]; exact h.1 j hj, h.2.setCell (by simp; omega) _⟩
/-- A block of bytes. -/
def Bt (w : World) (b ls : Nat) : Prop := ∃ cs, w.heap[b]? = some (.cells cs 5 (0, 0)) ∧ ∀ j, j < ls → ∃ z, cs[j]? = some (.int .u8 z)
theorem Bt.below {w w' : World} {b ls : Nat} (h : Bt w b ls) (hb : Below w.heap.size w w') : Bt w' b ls := by
  obtain ⟨cs, h1, h2⟩ := h
  exact ⟨cs, blk_keep h1 hb, h2⟩
theorem Bt.set {w : World} {b ls k : Nat} (h : Bt w b ls) (x : Int) : Bt (w.setCell ⟨b, k, none⟩ (.int .u8 x)) b ls := by
  obtain ⟨cs, h1, h2⟩ := h
  refine ⟨_, blk_set (i := k) (u := .int .u8 x) h1, fun j hj => ?_⟩
  obtain ⟨z, hz⟩ := h2 j hj
  rcases Nat.decEq k j with e | e
  · exact ⟨z, by rw [Array.getElem?_setIfInBounds_ne e]; exact hz⟩
  · subst e
    exact ⟨x, by rw [Array.getElem?_setIfInBounds_self]; have := (Array.getElem?_eq_some_iff.1 hz).1; simp [this]⟩
set_option maxRecDepth 100000 in
set_option maxHeartbeats 2000000 in
theorem paramsW (T : Tr) (s t : List Int) (n0 : Int) (r : Int) (q0 : Int) (w : World) (hT : 0 ≤ T.lf ∧ T.lf < 4294967296) (hx1 : T.sl = s.length) (hx2 : Lies w T.sa T.sc s) (hx3 : T.pl = t.length) (hx4 : Lies w T.pa T.pc t) (hr : (Lit.int .u64 n0).wf = true) (hr1 : (Lit.int .i64 r).wf = true) (hr2 : (Lit.int .u64 q0).wf = true) : Calls Try.prog 4 #[.agg (trC T), .int .u64 n0, .int .i64 r, .int .u64 q0] w fun e w' => e = .returned (.bool true) ∧ Below w.heap.size w w' := by
  clear hr1
  obtain ⟨n, rfl, hn⟩ := u64_nat hr
  obtain ⟨q, rfl, hq⟩ := u64_nat hr2
  clear hr hr2
  have hle : lvE T n = 0 → T.sl ≤ 16 ∧ T.pl ≤ 16 := fun h => vd_sl (lvE_ok h)
  have h1 : ∀ W, Below w.heap.size w W → Calls Try.prog 11 #[.agg (trC T), .int .u64 n, .int .i64 r, .int .u64 q] W (PaX T s t n r q W) := fun W hb => param_ T hT s t n hn r q W
    (fun hE W' hb' => by
      rw [hx1]
      exact unless_ T.sa T.sc s W' (hx2.2.2.1.below (hb.trans (hb'.mono hb.size))) hx2.2.2.2.1 (by have := hle hE; omega))
    (fun hE W' hb' => by
      rw [hx3]
      exact unless_ T.pa T.pc t W' (hx4.2.2.1.below (hb.trans (hb'.mono hb.size))) hx4.2.2.2.1 (by have := hle hE; omega))
  have h2 : ∀ W, Below w.heap.size w W → Calls Try.prog 12 #[.agg (trC T), .int .u64 n, .int .i64 r, .int .u64 q] W (PaX T s t n r q W) := fun W hb => rparam_ T hT s t n hn r q W
    (fun hE W' hb' => by
      rw [hx1]
      exact kept_ T.sa T.sc s W' (hx2.2.2.1.below (hb.trans (hb'.mono hb.size))) (by have := hle hE; omega))
    (fun hE W' hb' => by
      rw [hx3]
      exact kept_ T.pa T.pc t W' (hx4.2.2.1.below (hb.trans (hb'.mono hb.size))) (by have := hle hE; omega))
  obtain ⟨d, kl, f, dp, lf, of, ro, inn, E, S, P, hX⟩ := paX_ex T s t n r q
  rw [hX] at h1 h2
  have hsm : ∀ (Z : List Int) (W : World) (a a' : Option Addr) (c c' : Nat), Z.length ≤ maxLen → Row W a Z → Row W a' Z → Calls Try.prog 13 #[.slice a Z.length c, .slice a' Z.length c'] W fun e w' => e = .returned (.bool true) ∧ Below W.heap.size W w' := fun Z W a a' c c' hm h3 h4 => by
    refine (same a a' c c' Z Z W h3 h4 hm hm).mono ?_
    rintro e w' ⟨rfl, q, rfl⟩
    exact ⟨by simp, below_drewN (Below.refl _ _) q⟩
  have h3 := hsm S
  have h4 := hsm P
  unfold PaP at h1 h2
  unfold pcC at h1 h2
  have H1 := TW.hide h1
  have H2 := TW.hide h2
  have HA := TW.hide (fun W => awake W)
  clear h1 h2 hX hsm hx1 hx2 hx3 hx4 hle hT hn hq
  obtain ⟨ls, hls⟩ : ∃ ls, S.length = ls := ⟨_, rfl⟩
  obtain ⟨lp, hlp⟩ : ∃ lp, P.length = lp := ⟨_, rfl⟩
  rw [hls] at h3
  rw [hlp] at h4
  have HLS := TW.hide hls
  have HLP := TW.hide hlp
  have SM := TW.hide h3
  have SP := TW.hide h4
  clear hls hlp h3 h4
  unfold trC at *
  have n0 := heap_alloc_new w (.cells #[.int .i64 T.k, .int .i64 T.d, .int .i64 T.f, .int .i64 T.dp, .int .u32 T.lf, .int .i64 T.inn, .slice T.ka T.kl T.kc, .slice T.sa T.sl T.sc, .slice T.pa T.pl T.pc] 26)
  have hb0 := (Below.refl w.heap.size w).alloc (Nat.le_refl _) (.cells #[.int .i64 T.k, .int .i64 T.d, .int .i64 T.f, .int .i64 T.dp, .int .u32 T.lf, .int .i64 T.inn, .slice T.ka T.kl T.kc, .slice T.sa T.sl T.sc, .slice T.pa T.pl T.pc] 26)
  have HB0 := TW.hide hb0
  have HN := TW.hide n0
  clear n0 hb0
  go_enter Try.func4, Try.ntmps4
  refine wp_seq_k fun K hK => ?_
  have HK := TW.hide hK
  clear hK
  go_wp2_with fail
  refine HK.out _ _ ?_
  clear HK K
  generalize w.alloc _ = X at *
  have HXL : Hid (w.heap.size < X.heap.size) := blk_lt HN.out
  refine wp_seq_k fun K hK => ?_
  have HK := TW.hide hK
  clear hK
  obtain ⟨c0', c1', c2', c3', c4', c5', c6', c7', c8'⟩ := cells9 HN.out
  go_wp2_with fail
  refine (H1.out _ HB0.out).mono ?_
  rintro e1 w1 ⟨v, u, rfl, ho, hp, hb⟩
  clear c0' c1' c2' c3' c4' c5' c6' c7' c8'
  have hso := sp_own ho
  obtain ⟨a1, c1, rfl, hr, hm⟩ := row_of_own ho
  obtain ⟨x1, y1, rfl, hr', hm'⟩ := row_of_own hp
  rw [HLS.out] at hso
  rw [HLS.out, HLP.out]
  have HM := TW.hide hm
  have HM' := TW.hide hm'
  have HSO1 := TW.hide hso
  have R1 := TW.hide (hr.below ((Below.refl _ _).alloc (Nat.le_refl _) (.cells #[.int .i64 d, .int .i64 (kl : Nat), .int .i64 f, .int .i64 dp, .int .u32 lf, .int .u64 (of : Nat), .int .u32 0, .int .i64 ro, .int .i64 inn, .slice a1 ls c1, .slice x1 lp y1] 42)))
  have Q1 := TW.hide (hr'.below ((Below.refl _ _).alloc (Nat.le_refl _) (.cells #[.int .i64 d, .int .i64 (kl : Nat), .int .i64 f, .int .i64 dp, .int .u32 lf, .int .u64 (of : Nat), .int .u32 0, .int .i64 ro, .int .i64 inn, .slice a1 ls c1, .slice x1 lp y1] 42)))
  have hbz := hb.size
  have HZ1 := TW.hide hbz
  clear ho hp hr hr' hm hm' hso hbz
  have HN := TW.hide (blk_alloc (o' := .cells #[.int .i64 d, .int .i64 (kl : Nat), .int .i64 f, .int .i64 dp, .int .u32 lf, .int .u64 (of : Nat), .int .u32 0, .int .i64 ro, .int .i64 inn, .slice a1 ls c1, .slice x1 lp y1] 42) (blk_keep HN.out hb))
  have HB1 : Hid (Below w.heap.size w w1) := HB0.out.trans (hb.mono HB0.out.size)
  have HB1 : Hid (Below w.heap.size w (w1.alloc (.cells #[.int .i64 d, .int .i64 (kl : Nat), .int .i64 f, .int .i64 dp, .int .u32 lf, .int .u64 (of : Nat), .int .u32 0, .int .i64 ro, .int .i64 inn, .slice a1 ls c1, .slice x1 lp y1] 42))) := HB1.out.alloc HB1.out.size _
  clear HB0 hb
  have G1 := TW.hide (heap_alloc_new w1 (.cells #[.int .i64 d, .int .i64 (kl : Nat), .int .i64 f, .int .i64 dp, .int .u32 lf, .int .u64 (of : Nat), .int .u32 0, .int .i64 ro, .int .i64 inn, .slice a1 ls c1, .slice x1 lp y1] 42))
  go_wp2
  refine HK.out _ _ ?_
  clear HK K
  obtain ⟨b1, hb1⟩ := HSO1.out
  have HC1 : Hid (0 < ls → a1 = some ⟨b1, 0, none⟩ ∧ w.heap.size < b1 ∧ b1 < w1.heap.size) := fun h => by
    obtain ⟨cap, cs, e, p1, p2, _⟩ := hb1 h
    injection e with e1 _ _
    exact ⟨e1, by have := HXL.out; omega, p2⟩
  have HT1 : Hid (0 < ls → Bt (w1.alloc (.cells #[.int .i64 d, .int .i64 (kl : Nat), .int .i64 f, .int .i64 dp, .int .u32 lf, .int .u64 (of : Nat), .int .u32 0, .int .i64 ro, .int .i64 inn, .slice a1 ls c1, .slice x1 lp y1] 42)) b1 ls) := fun h => by
    obtain ⟨cap, cs, e, p1, p2, p3, p4⟩ := hb1 h
    exact Bt.below ⟨cs, p3, p4⟩ ((Below.refl _ _).alloc (Nat.le_refl _) _)
  have HV1 : Hid (w1.heap.size < (w1.alloc (.cells #[.int .i64 d, .int .i64 (kl : Nat), .int .i64 f, .int .i64 dp, .int .u32 lf, .int .u64 (of : Nat), .int .u32 0, .int .i64 ro, .int .i64 inn, .slice a1 ls c1, .slice x1 lp y1] 42)).heap.size) := blk_lt G1.out
  clear hb1 HSO1 HZ1
  generalize w1.alloc _ = V1 at *
  generalize w1.heap.size = g1 at *
  refine wp_seq_k fun K hK => ?_
  have HK := TW.hide hK
  clear hK
  obtain ⟨c0', c1', c2', c3', c4', c5', c6', c7', c8'⟩ := cells9 HN.out
  go_wp2_with fail
  refine (H2.out _ HB1.out).mono ?_
  rintro e2 w2 ⟨v, u, rfl, ho, hp, hb⟩
  clear c0' c1' c2' c3' c4' c5' c6' c7' c8'
  have hso := sp_own ho
  have HHB := TW.hide hb
  obtain ⟨a2, c2, rfl, hr, hm⟩ := row_of_own ho
  obtain ⟨x2, y2, rfl, hr', hm'⟩ := row_of_own hp
  rw [HLS.out] at hso
  rw [HLS.out, HLP.out]
  have HM := TW.hide hm
  have HM' := TW.hide hm'
  have HSO2 := TW.hide hso
  have R2 := TW.hide (hr.below ((Below.refl _ _).alloc (Nat.le_refl _) (.cells #[.int .i64 d, .int .i64 (kl : Nat), .int .i64 f, .int .i64 dp, .int .u32 lf, .int .u64 (of : Nat), .int .u32 0, .int .i64 ro, .int .i64 inn, .slice a2 ls c2, .slice x2 lp y2] 42)))
  have Q2 := TW.hide (hr'.below ((Below.refl _ _).alloc (Nat.le_refl _) (.cells #[.int .i64 d, .int .i64 (kl : Nat), .int .i64 f, .int .i64 dp, .int .u32 lf, .int .u64 (of : Nat), .int .u32 0, .int .i64 ro, .int .i64 inn, .slice a2 ls c2, .slice x2 lp y2] 42)))
  have hbz := hb.size
  have HZ2 := TW.hide hbz
  clear ho hp hr hr' hm hm' hso hbz
  have HN := TW.hide (blk_alloc (o' := .cells #[.int .i64 d, .int .i64 (kl : Nat), .int .i64 f, .int .i64 dp, .int .u32 lf, .int .u64 (of : Nat), .int .u32 0, .int .i64 ro, .int .i64 inn, .slice a2 ls c2, .slice x2 lp y2] 42) (blk_keep HN.out hb))
  have G1 := TW.hide (blk_alloc (o' := .cells #[.int .i64 d, .int .i64 (kl : Nat), .int .i64 f, .int .i64 dp, .int .u32 lf, .int .u64 (of : Nat), .int .u32 0, .int .i64 ro, .int .i64 inn, .slice a2 ls c2, .slice x2 lp y2] 42) (blk_keep G1.out hb))
  have R1 := TW.hide ((R1.out.below hb).below ((Below.refl _ _).alloc (Nat.le_refl _) (.cells #[.int .i64 d, .int .i64 (kl : Nat), .int .i64 f, .int .i64 dp, .int .u32 lf, .int .u64 (of : Nat), .int .u32 0, .int .i64 ro, .int .i64 inn, .slice a2 ls c2, .slice x2 lp y2] 42)))
  have Q1 := TW.hide ((Q1.out.below hb).below ((Below.refl _ _).alloc (Nat.le_refl _) (.cells #[.int .i64 d, .int .i64 (kl : Nat), .int .i64 f, .int .i64 dp, .int .u32 lf, .int .u64 (of : Nat), .int .u32 0, .int .i64 ro, .int .i64 inn, .slice a2 ls c2, .slice x2 lp y2] 42)))
  have HB2 : Hid (Below w.heap.size w w2) := HB1.out.trans (hb.mono HB1.out.size)
  have HB2 : Hid (Below w.heap.size w (w2.alloc (.cells #[.int .i64 d, .int .i64 (kl : Nat), .int .i64 f, .int .i64 dp, .int .u32 lf, .int .u64 (of : Nat), .int .u32 0, .int .i64 ro, .int .i64 inn, .slice a2 ls c2, .slice x2 lp y2] 42))) := HB2.out.alloc HB2.out.size _
  clear HB1 hb
  have G2 := TW.hide (heap_alloc_new w2 (.cells #[.int .i64 d, .int .i64 (kl : Nat), .int .i64 f, .int .i64 dp, .int .u32 lf, .int .u64 (of : Nat), .int .u32 0, .int .i64 ro, .int .i64 inn, .slice a2 ls c2, .slice x2 lp y2] 42))
  have HT1 : Hid (0 < ls → Bt (w2.alloc (.cells #[.int .i64 d, .int .i64 (kl : Nat), .int .i64 f, .int .i64 dp, .int .u32 lf, .int .u64 (of : Nat), .int .u32 0, .int .i64 ro, .int .i64 inn, .slice a2 ls c2, .slice x2 lp y2] 42)) b1 ls) := fun h => ((HT1.out h).below (HHB.out)).below ((Below.refl _ _).alloc (Nat.le_refl _) _)
  clear HHB
  go_wp2
  refine HK.out _ _ ?_
  clear HK K
  obtain ⟨b2, hb2⟩ := HSO2.out
  have HC2 : Hid (0 < ls → a2 = some ⟨b2, 0, none⟩ ∧ g1 < b2) := fun h => by
    obtain ⟨cap, cs, e, p1, p2, _⟩ := hb2 h
    injection e with e1 _ _
    exact ⟨e1, by have := HV1.out; omega⟩
  have HG2 : Hid (g1 < w2.heap.size) := by have := HV1.out; have := HZ2.out; show _ < _; omega
  clear hb2 HSO2 HZ2 HV1
  generalize w2.alloc _ = V2 at *
  generalize w2.heap.size = g2 at *
  generalize Value.tuple #[.agg #[.int .i64 d, .int .i64 (kl : Nat), .int .i64 f, .int .i64 dp, .int .u32 lf, .int .u64 (of : Nat), .int .u32 0, .int .i64 ro, .int .i64 inn, .slice a1 ls c1, .slice x1 lp y1], .int .i64 E] = zt1
  generalize Value.agg #[.int .i64 d, .int .i64 (kl : Nat), .int .i64 f, .int .i64 dp, .int .u32 lf, .int .u64 (of : Nat), .int .u32 0, .int .i64 ro, .int .i64 inn, .slice a1 ls c1, .slice x1 lp y1] = zp1
  generalize Value.tuple #[.agg #[.int .i64 d, .int .i64 (kl : Nat), .int .i64 f, .int .i64 dp, .int .u32 lf, .int .u64 (of : Nat), .int .u32 0, .int .i64 ro, .int .i64 inn, .slice a2 ls c2, .slice x2 lp y2], .int .i64 E] = zt2
  generalize Value.agg #[.int .i64 d, .int .i64 (kl : Nat), .int .i64 f, .int .i64 dp, .int .u32 lf, .int .u64 (of : Nat), .int .u32 0, .int .i64 ro, .int .i64 inn, .slice a2 ls c2, .slice x2 lp y2] = zp2
  generalize Value.agg #[.int .i64 T.k, .int .i64 T.d, .int .i64 T.f, .int .i64 T.dp, .int .u32 T.lf, .int .i64 T.inn, .slice T.ka T.kl T.kc, .slice T.sa T.sl T.sc, .slice T.pa T.pl T.pc] = ztr
  refine wp_seq_k fun K hK => ?_
  have HK := TW.hide hK
  clear hK
  obtain ⟨_, _, _, _, _, _, _, _, _, p9, p10, _⟩ := cells11 G1.out
  obtain ⟨_, _, _, _, _, _, _, _, _, q9, q10, _⟩ := cells11 G2.out
  go_wp2_with fail
  refine (SM.out _ _ _ _ _ (HLS.out ▸ HM.out) R1.out R2.out).mono ?_
  rintro e3 w3 ⟨rfl, hb⟩
  clear p9 p10 q9 q10
  have HT1 : Hid (0 < ls → Bt w3 b1 ls) := fun h => (HT1.out h).below hb
  have HN := TW.hide ((blk_keep HN.out hb))
  have G1 := TW.hide ((blk_keep G1.out hb))
  have G2 := TW.hide ((blk_keep G2.out hb))
  have R1 := TW.hide ((R1.out.below hb))
  have R2 := TW.hide ((R2.out.below hb))
  have Q1 := TW.hide ((Q1.out.below hb))
  have Q2 := TW.hide ((Q2.out.below hb))
  have HB3 : Hid (Below w.heap.size w w3) := HB2.out.trans (hb.mono HB2.out.size)
  clear HB2 hb
  obtain ⟨_, _, _, _, _, _, _, _, _, p9, p10, _⟩ := cells11 G1.out
  obtain ⟨_, _, _, _, _, _, _, _, _, q9, q10, _⟩ := cells11 G2.out
  go_wp2_with fail
  refine (SP.out _ _ _ _ _ (HLP.out ▸ HM'.out) Q1.out Q2.out).mono ?_
  rintro e4 w4 ⟨rfl, hb⟩
  clear p9 p10 q9 q10
  have HT1 : Hid (0 < ls → Bt w4 b1 ls) := fun h => (HT1.out h).below hb
  have HN := TW.hide ((blk_keep HN.out hb))
  have G1 := TW.hide ((blk_keep G1.out hb))
  have G2 := TW.hide ((blk_keep G2.out hb))
  have R2 := TW.hide ((R2.out.below hb))
  have HB4 : Hid (Below w.heap.size w w4) := HB3.out.trans (hb.mono HB3.out.size)
  clear HB3 hb
  go_wp2
  refine HK.out _ _ ?_
  clear HK K
  refine wp_seq_k fun K5 hK => ?_
  have HK5 := TW.hide hK
  clear hK
  obtain ⟨_, _, _, _, _, _, _, _, _, p9, p10, _⟩ := cells11 G1.out
  go_wp2
  clear p9 p10
  have hlm : ls ≤ 9223372036854775807 := by have h := HM.out; rw [HLS.out] at h; unfold maxLen at h; omega
  go_loopw [54] (fun i wr => ∃ (k : Nat), k ≤ ls ∧ i = .int .i64 k ∧ Hid (Spl w.heap.size g1 w w4 wr) ∧ Hid (0 < ls → Bt wr b1 ls)) (fun i _ => ls - (intOf i).toNat)
  case atStart => exact ⟨0, Nat.zero_le _, rfl, ⟨fun _ _ => rfl, HB4.out⟩, HT1⟩
  case round =>
    obtain ⟨k, hk, rfl, HSW, HBT⟩ := hrel
    by_cases hlt : k < ls
    · have HLT := TW.hide hlt
      obtain ⟨ha1, hw1, hw2⟩ := HC1.out (by omega)
      subst ha1
      have hBt := HBT.out (by omega)
      have hBt' := hBt
      obtain ⟨cs, hcs, hzz⟩ := hBt'
      obtain ⟨z, hz⟩ := hzz k hlt
      have bc : wr.cell? ⟨b1, k, none⟩ = some (.int .u8 z) := blk_cell hcs hz
      have bf : wr.frozen? ⟨b1, k, none⟩ = false := by simp [World.frozen?, hcs]
      have gw := (HSW.out.1 g1 (.inr (Nat.le_refl _))).trans G1.out
      obtain ⟨_, _, _, _, _, _, _, _, _, p9, _⟩ := cells11 gw
      have HP9 := TW.hide p9
      have HBC := TW.hide bc
      have HBF := TW.hide bf
      have HBt := TW.hide hBt
      have hk0 : (0 : Int) ≤ (k : Int) := by omega
      have hk1 : (k : Int) < (ls : Int) := by omega
      clear hBt hcs hzz hz bc bf gw p9 HBT
      go_wp2
      refine wp_region_noPanic ?_
      refine RG.wp_region_L (fun Z => Z.cell? ⟨g1, 9, none⟩ = some (.slice (some ⟨b1, 0, none⟩) ls c1) ∧ Z.cell? ⟨b1, k, none⟩ = some (.int .u8 z)) (fun Z => True) [10] (by kernel_rfl) ?_
      refine RG.wpL_any fun Y hY => ?_
      have y1 : Y.cell? ⟨g1, 9, none⟩ = some (.slice (some ⟨b1, 0, none⟩) ls c1) := by rw [hY]; exact HP9.out
      have y2 : Y.cell? ⟨b1, k, none⟩ = some (.int .u8 z) := by rw [hY]; exact HBC.out
      have y3 : Y.frozen? ⟨b1, k, none⟩ = false := by rw [hY]; exact HBF.out
      have HF : Hid (∀ x : Int, Spl w.heap.size g1 w w4 (Y.setCell ⟨b1, k, none⟩ (.int .u8 x)) ∧ Bt (Y.setCell ⟨b1, k, none⟩ (.int .u8 x)) b1 ls) := fun x => by
        rw [hY]
        exact ⟨Spl.set (wr := wr.drewN 1) ⟨HSW.out.1, below_drewN HSW.out.2 1⟩ hw1 hw2, Bt.set (w := wr.drewN 1) HBt.out x⟩
      clear hY HP9 HBC HBF HSW HBt
      refine RG.wpL_take (fuel := 1) (a' := ?At) [0, 1, 2, 3, 4, 5, 6, 7, 8, 9] (by kernel_rfl) (by kernel_rfl) (fun _ _ _ _ _ h => h) trivial (fun _ => ⟨y1, y2⟩) ?rt ?_
      case rt =>
        refine RG.RunsIf.weak (v := ?_) (by rfl) (by rfl) (fun Z hT => ?_) ?_
        rotate_left
        · go_simp
          rfl
        simp only [Act.put, List.setIfInBounds_toArray, List.set_cons_zero, List.set_cons_succ, List.getElem_toArray, List.getElem_cons_zero, List.getElem_cons_succ]
        refine RG.RunsIf.strong (v := .slice (some ⟨b1, 0, none⟩) ls c1) (by rfl) (by kernel_rfl) (by rfl) (fun Z hT hS => ?_) ?_
        · have cz : Z.cell? ⟨g1, 9, none⟩ = some (.slice (some ⟨b1, 0, none⟩) ls c1) := hS.1
          go_simp
        simp only [Act.put, List.setIfInBounds_toArray, List.set_cons_zero, List.set_cons_succ, List.getElem_toArray, List.getElem_cons_zero, List.getElem_cons_succ]
        refine RG.RunsIf.weak (v := ?_) (by rfl) (by rfl) (fun Z hT => ?_) ?_
        rotate_left
        · go_simp
          rfl
        simp only [Act.put, List.setIfInBounds_toArray, List.set_cons_zero, List.set_cons_succ, List.getElem_toArray, List.getElem_cons_zero, List.getElem_cons_succ]
        refine RG.RunsIf.weak (v := ?_) (by rfl) (by rfl) (fun Z hT => ?_) ?_
        rotate_left
        · go_simp
          rfl
        simp only [Act.put, List.setIfInBounds_toArray, List.set_cons_zero, List.set_cons_succ, List.getElem_toArray, List.getElem_cons_zero, List.getElem_cons_succ]
        refine RG.RunsIf.strong (v := .slice (some ⟨b1, 0, none⟩) ls c1) (by rfl) (by kernel_rfl) (by rfl) (fun Z hT hS => ?_) ?_
        · have cz : Z.cell? ⟨g1, 9, none⟩ = some (.slice (some ⟨b1, 0, none⟩) ls c1) := hS.1
          go_simp
        simp only [Act.put, List.setIfInBounds_toArray, List.set_cons_zero, List.set_cons_succ, List.getElem_toArray, List.getElem_cons_zero, List.getElem_cons_succ]
        refine RG.RunsIf.weak (v := ?_) (by rfl) (by rfl) (fun Z hT => ?_) ?_
        rotate_left
        · go_simp
          rfl
        simp only [Act.put, List.setIfInBounds_toArray, List.set_cons_zero, List.set_cons_succ, List.getElem_toArray, List.getElem_cons_zero, List.getElem_cons_succ]
        refine RG.RunsIf.weak (v := ?_) (by rfl) (by rfl) (fun Z hT => ?_) ?_
        rotate_left
        · go_simp
          rfl
        simp only [Act.put, List.setIfInBounds_toArray, List.set_cons_zero, List.set_cons_succ, List.getElem_toArray, List.getElem_cons_zero, List.getElem_cons_succ]
        refine RG.RunsIf.strong (v := .int .u8 z) (by rfl) (by kernel_rfl) (by rfl) (fun Z hT hS => ?_) ?_
        · have cz : Z.cell? ⟨b1, k, none⟩ = some (.int .u8 z) := hS.2
          go_simp
        simp only [Act.put, List.setIfInBounds_toArray, List.set_cons_zero, List.set_cons_succ, List.getElem_toArray, List.getElem_cons_zero, List.getElem_cons_succ]
        refine RG.RunsIf.weak (v := ?_) (by rfl) (by rfl) (fun Z hT => ?_) ?_
        rotate_left
        · go_simp
          rfl
        simp only [Act.put, List.setIfInBounds_toArray, List.set_cons_zero, List.set_cons_succ, List.getElem_toArray, List.getElem_cons_zero, List.getElem_cons_succ]
        refine RG.RunsIf.weak (v := ?_) (by rfl) (by rfl) (fun Z hT => ?_) ?_
        rotate_left
        · go_simp
          rfl
        simp only [Act.put, List.setIfInBounds_toArray, List.set_cons_zero, List.set_cons_succ, List.getElem_toArray, List.getElem_cons_zero, List.getElem_cons_succ]
        exact RG.RunsIf.nil
      refine RG.wpL_late (i := 10) (by kernel_rfl) (by rfl) (by rfl) (by kernel_rfl) (fun KX hK => ?_)
      have HK := TW.hide hK
      clear hK
      go_simp
      refine HK.out _ _ trivial ?_
      clear HK KX y1 y2 y3
      refine RG.wpL_done (by kernel_rfl) ?_ _
      refine NoPanic.normal ?_
      generalize hx : Y.setCell ⟨b1, k, none⟩ (.int .u8 _) = X5
      have h5 : Spl w.heap.size g1 w w4 X5 ∧ Bt X5 b1 ls := by rw [← hx]; exact HF.out _
      have HF1 := TW.hide h5.1
      have HF2 := TW.hide h5.2
      clear hx HF h5
      go_wp2
      have hlt := HLT.out
      exact ⟨⟨k + 1, by omega, by go_num, HF1, fun _ => HF2.out⟩, by simp [intOf]; omega⟩
    · have hRW : Row wr a2 S := by
        rcases Nat.eq_zero_or_pos ls with h0 | h0
        · exact .inl (List.length_eq_zero_iff.1 (HLS.out.trans h0))
        · obtain ⟨e, hg⟩ := HC2.out h0
          rcases R2.out with h | ⟨b, off, e', hc⟩
          · exact .inl h
          · rw [e'] at e
            injection e with e
            injection e with e _ _
            refine .inr ⟨b, off, e', fun i hi => ?_⟩
            rw [World.cell?_of_block (w := w4) (HSW.out.1 b (.inr (by omega)))]
            exact hc i hi
      have R2 := TW.hide hRW
      have HN := TW.hide ((HSW.out.1 _ (.inl rfl)).trans HN.out)
      have G1 := TW.hide ((HSW.out.1 g1 (.inr (Nat.le_refl _))).trans G1.out)
      have G2 := TW.hide ((HSW.out.1 g2 (.inr (Nat.le_of_lt HG2.out))).trans G2.out)
      have HB5 : Hid (Below w.heap.size w wr) := HSW.out.2
      have hk1 : ¬ (k : Int) < (ls : Int) := by omega
      clear hRW HSW HBT HT1 HC1 HC2 HB4
      go_wp2
      refine HK5.out _ _ ?_
      clear HK5
      refine wp_seq_k fun K hK => ?_
      have HK := TW.hide hK
      clear hK
      obtain ⟨c0', c1', c2', c3', c4', c5', c6', c7', c8'⟩ := cells9 HN.out
      go_wp2_with fail
      refine (H1.out _ HB5.out).mono ?_
      rintro e3 w3 ⟨v, u, rfl, ho, hp, hb⟩
      clear c0' c1' c2' c3' c4' c5' c6' c7' c8'
      have hso := sp_own ho
      obtain ⟨a3, c3, rfl, hr, hm⟩ := row_of_own ho
      obtain ⟨x3, y3, rfl, hr', hm'⟩ := row_of_own hp
      rw [HLS.out] at hso
      rw [HLS.out, HLP.out]
      have HM := TW.hide hm
      have HM' := TW.hide hm'
      have HSO3 := TW.hide hso
      have R3 := TW.hide (hr.below ((Below.refl _ _).alloc (Nat.le_refl _) (.cells #[.int .i64 d, .int .i64 (kl : Nat), .int .i64 f, .int .i64 dp, .int .u32 lf, .int .u64 (of : Nat), .int .u32 0, .int .i64 ro, .int .i64 inn, .slice a3 ls c3, .slice x3 lp y3] 42)))
      have Q3 := TW.hide (hr'.below ((Below.refl _ _).alloc (Nat.le_refl _) (.cells #[.int .i64 d, .int .i64 (kl : Nat), .int .i64 f, .int .i64 dp, .int .u32 lf, .int .u64 (of : Nat), .int .u32 0, .int .i64 ro, .int .i64 inn, .slice a3 ls c3, .slice x3 lp y3] 42)))
      have hbz := hb.size
      have HZ3 := TW.hide hbz
      clear ho hp hr hr' hm hm' hso hbz
      have HN := TW.hide (blk_alloc (o' := .cells #[.int .i64 d, .int .i64 (kl : Nat), .int .i64 f, .int .i64 dp, .int .u32 lf, .int .u64 (of : Nat), .int .u32 0, .int .i64 ro, .int .i64 inn, .slice a3 ls c3, .slice x3 lp y3] 42) (blk_keep HN.out hb))
      have G1 := TW.hide (blk_alloc (o' := .cells #[.int .i64 d, .int .i64 (kl : Nat), .int .i64 f, .int .i64 dp, .int .u32 lf, .int .u64 (of : Nat), .int .u32 0, .int .i64 ro, .int .i64 inn, .slice a3 ls c3, .slice x3 lp y3] 42) (blk_keep G1.out hb))
      have G2 := TW.hide (blk_alloc (o' := .cells #[.int .i64 d, .int .i64 (kl : Nat), .int .i64 f, .int .i64 dp, .int .u32 lf, .int .u64 (of : Nat), .int .u32 0, .int .i64 ro, .int .i64 inn, .slice a3 ls c3, .slice x3 lp y3] 42) (blk_keep G2.out hb))
      have R2 := TW.hide ((R2.out.below hb).below ((Below.refl _ _).alloc (Nat.le_refl _) (.cells #[.int .i64 d, .int .i64 (kl : Nat), .int .i64 f, .int .i64 dp, .int .u32 lf, .int .u64 (of : Nat), .int .u32 0, .int .i64 ro, .int .i64 inn, .slice a3 ls c3, .slice x3 lp y3] 42)))
      have HB6 : Hid (Below w.heap.size w w3) := HB5.out.trans (hb.mono HB5.out.size)
      have HB6 : Hid (Below w.heap.size w (w3.alloc (.cells #[.int .i64 d, .int .i64 (kl : Nat), .int .i64 f, .int .i64 dp, .int .u32 lf, .int .u64 (of : Nat), .int .u32 0, .int .i64 ro, .int .i64 inn, .slice a3 ls c3, .slice x3 lp y3] 42))) := HB6.out.alloc HB6.out.size _
      clear HB5 hb
      have G3 := TW.hide (heap_alloc_new w3 (.cells #[.int .i64 d, .int .i64 (kl : Nat), .int .i64 f, .int .i64 dp, .int .u32 lf, .int .u64 (of : Nat), .int .u32 0, .int .i64 ro, .int .i64 inn, .slice a3 ls c3, .slice x3 lp y3] 42))
      go_wp2
      refine HK.out _ _ ?_
      clear HK K
      generalize w3.alloc _ = V3 at *
      generalize w3.heap.size = g3 at *
      generalize Value.tuple #[.agg #[.int .i64 d, .int .i64 (kl : Nat), .int .i64 f, .int .i64 dp, .int .u32 lf, .int .u64 (of : Nat), .int .u32 0, .int .i64 ro, .int .i64 inn, .slice a3 ls c3, .slice x3 lp y3], .int .i64 E] = zt3
      generalize Value.agg #[.int .i64 d, .int .i64 (kl : Nat), .int .i64 f, .int .i64 dp, .int .u32 lf, .int .u64 (of : Nat), .int .u32 0, .int .i64 ro, .int .i64 inn, .slice a3 ls c3, .slice x3 lp y3] = zp3
      generalize Value.agg #[.int .i64 T.k, .int .i64 T.d, .int .i64 T.f, .int .i64 T.dp, .int .u32 T.lf, .int .i64 T.inn, .slice T.ka T.kl T.kc, .slice T.sa T.sl T.sc, .slice T.pa T.pl T.pc] = ztr3
      refine wp_seq_k fun K hK => ?_
      have HK := TW.hide hK
      clear hK
      obtain ⟨_, _, _, _, _, _, _, _, _, p9, _⟩ := cells11 G3.out
      obtain ⟨_, _, _, _, _, _, _, _, _, q9, _⟩ := cells11 G2.out
      go_wp2_with fail
      clear p9 q9
      refine (SM.out _ _ _ _ _ (HLS.out ▸ HM.out) R3.out R2.out).mono ?_
      rintro e7 w7 ⟨rfl, hb⟩
      have G1 := TW.hide ((blk_keep G1.out hb))
      have G2 := TW.hide ((blk_keep G2.out hb))
      have HB7 : Hid (Below w.heap.size w w7) := HB6.out.trans (hb.mono HB6.out.size)
      clear HB6 hb
      go_wp2
      refine HK.out _ _ ?_
      clear HK K
      refine wp_seq_k fun K hK => ?_
      have HK := TW.hide hK
      clear hK
      obtain ⟨p0, p1, p2, p3, p4, p5, p6, p7, p8, _⟩ := cells11 G1.out
      obtain ⟨q0, q1, q2, q3, q4, q5, q6, q7, q8, _⟩ := cells11 G2.out
      clear HN R2 R3 G1 G2 G3 H1 H2 SM SP HM HM' HLS HLP
      go_wp2_with fail
      refine (HA.out _).mono ?_
      rintro e8 w8 ⟨rfl, hb⟩
      have HB8 : Hid (Below w.heap.size w w8) := HB7.out.trans (hb.mono HB7.out.size)
      clear HB7 hb p0 p1 p2 p3 p4 p5 p6 p7 p8 q0 q1 q2 q3 q4 q5 q6 q7 q8
      go_wp2
      refine HK.out _ _ ?_
      clear HK
      go_wp2
      go_ret
      exact ⟨rfl, HB8.out⟩
end LW
end Go.Proofs.Ytahmjdnnkifmnaa
