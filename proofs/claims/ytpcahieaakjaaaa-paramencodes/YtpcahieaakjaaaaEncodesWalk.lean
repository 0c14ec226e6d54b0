/-
  What the law ParamEncodes does: Encode and Words of the program answer as the document's.
-/
import Derived.Test.YtpcahieaakjaaaaWo
import Derived.Test.YtpcahieaakjaaaaSame
namespace Go.Proofs.Ytpcahieaakjaaaa
open Go.RowKit
set_option linter.unusedVariables false
set_option linter.unusedSimpArgs false
namespace LW
open Words
attribute [local go_sem ↓] Go.wp_at_zero Go.wp_at_succ
set_option maxRecDepth 100000 in
set_option maxHeartbeats 8000000 in
theorem encodesGen (kd E : Int) (L V : List Int) (p : Pm) (sa ta : Option Addr) (sc tc : Nat) (s t : List Int) (w : World)
    (HC : Hid (∀ W, Below w.heap.size w W → Calls Try.prog 10 #[.agg (pcP p (.slice sa s.length sc) (.slice ta t.length tc))] W fun e w' => ∃ a c b d, e = .returned (.agg (pcP p (.slice a s.length c) (.slice b t.length d))) ∧ Pa w' a c s ∧ Pa w' b d t ∧ Below W.heap.size W w'))
    (H23 : Hid (∀ a c b d W, Pa W a c s → Pa W b d t → Calls Try.prog 17 #[.int .i64 kd, .agg (pcP p (.slice a s.length c) (.slice b t.length d))] W fun e w' => ∃ a c, e = .returned (.tuple #[.slice a L.length c, .int .i64 E]) ∧ Pa w' a c L ∧ Below W.heap.size W w'))
    (H24 : Hid (∀ W, Below w.heap.size w W → Calls Try.prog 18 #[.int .i64 kd, .agg (pcP p (.slice sa s.length sc) (.slice ta t.length tc))] W fun e w' => ∃ a c, e = .returned (.tuple #[.slice a L.length c, .int .i64 E]) ∧ Pa w' a c L ∧ Below W.heap.size W w'))
    (H26 : Hid (∀ a c b d W, Pa W a c s → Pa W b d t → Calls Try.prog 20 #[.int .i64 kd, .agg (pcP p (.slice a s.length c) (.slice b t.length d))] W fun e w' => ∃ a c, e = .returned (.tuple #[.slice a V.length c, .int .i64 E]) ∧ RowU w' a V ∧ Below W.heap.size W w'))
    (H27 : Hid (∀ W, Below w.heap.size w W → Calls Try.prog 21 #[.int .i64 kd, .agg (pcP p (.slice sa s.length sc) (.slice ta t.length tc))] W fun e w' => ∃ a c, e = .returned (.tuple #[.slice a V.length c, .int .i64 E]) ∧ RowU w' a V ∧ Below W.heap.size W w'))
    (H25 : Hid (∀ a c a' c' W, Pa W a c L → Pa W a' c' L → Calls Try.prog 19 #[.slice a L.length c, .slice a' L.length c'] W fun e w' => e = .returned (.bool true) ∧ ∃ q, w' = W.drewN q)) (hV : V.length ≤ 8) :
    Calls Try.prog 4 #[.int .i64 kd, .agg (pcP p (.slice sa s.length sc) (.slice ta t.length tc))] w fun e w' => e = .returned (.bool true) ∧ Below w.heap.size w w' := by
  have hEE : (E != E) = false := by simp
  have hb := ((Below.refl w.heap.size w).alloc (Nat.le_refl _) (.cells (pcP p (.slice sa s.length sc) (.slice ta t.length tc)) 26))
  have n0 := (heap_new w (.cells (pcP p (.slice sa s.length sc) (.slice ta t.length tc)) 26))
  go_enter Try.func4, Try.ntmps4
  refine wp_seq_k fun K hK => ?_
  have HK := TW.hide hK
  clear hK
  go_wp2
  refine HK.out _ _ ?_
  clear HK K
  change Code.wp _ _ _ _ (w.alloc (.cells (pcP p (.slice sa s.length sc) (.slice ta t.length tc)) 26))
  generalize hWW : w.alloc (.cells (pcP p (.slice sa s.length sc) (.slice ta t.length tc)) 26) = W at hb n0 ⊢
  have hW : W.heap.size = w.heap.size + 1 := by rw [← hWW]; simp
  clear hWW
  generalize hB : w.heap.size = B at *
  have N0 := TW.hide n0
  have NB := TW.hide hb
  clear n0 hb
  clear hW
  have hVV : (((V.length : Int)) != (V.length : Int)) = false := by simp
  generalize hLL : L.length = ll at *
  generalize hVL : V.length = vl at *
  refine wp_seq_k fun KK hK => ?_
  have HK := TW.hide hK
  clear hK
  go_wp2_with (refine wpList_load_row (by rfl) 26 _ (by rfl) (B) (by rfl) 26 (pcP p (.slice sa s.length sc) (.slice ta t.length tc)) (0, 0) _ N0.out Try.underlying26 rfl (info31 _ _ _) ?_)
  refine (HC.out _ NB.out).mono ?_
  rintro e w1 ⟨a1, c1, b1, d1, rfl, pa, pb, hbb⟩
  have N0' := TW.hide (blk_keep N0.out hbb)
  have NB' : Hid (Below B w w1) := below_row NB.out hbb (by have := blk_lt N0.out; omega)
  clear N0 NB hbb 
  have N0 := N0'
  have NB := NB'
  clear N0' NB' 
  have PA := TW.hide pa
  have PB := TW.hide pb
  clear pa pb
  go_wp2_with fail
  refine (H23.out _ _ _ _ _ PA.out PB.out).mono ?_
  rintro e w2 ⟨ea, ec, rfl, pe, hbb⟩
  have N0' := TW.hide (blk_keep N0.out hbb)
  have NB' : Hid (Below B w w2) := below_row NB.out hbb (by have := blk_lt N0.out; omega)
  clear N0 NB hbb 
  have N0 := N0'
  have NB := NB'
  clear N0' NB' 
  have PE := TW.hide pe
  clear pe PA PB
  go_wp2
  refine HK.out _ _ ?_
  clear HK KK
  refine wp_seq_k fun KK hK => ?_
  have HK := TW.hide hK
  clear hK
  go_wp2_with (refine wpList_load_row (by rfl) 26 _ (by rfl) (B) (by rfl) 26 (pcP p (.slice sa s.length sc) (.slice ta t.length tc)) (0, 0) _ N0.out Try.underlying26 rfl (info31 _ _ _) ?_)
  refine (H24.out _ NB.out).mono ?_
  rintro e w3 ⟨fa, fc, rfl, pf, hbb⟩
  have N0' := TW.hide (blk_keep N0.out hbb)
  have NB' : Hid (Below B w w3) := below_row NB.out hbb (by have := blk_lt N0.out; omega)
  have PE' := TW.hide (PE.out.below hbb)
  clear N0 NB hbb PE
  have N0 := N0'
  have NB := NB'
  have PE := PE'
  clear N0' NB' PE'
  have PF := TW.hide pf
  clear pf
  go_wp2
  refine HK.out _ _ ?_
  clear HK KK
  refine wp_seq_k fun KK hK => ?_
  have HK := TW.hide hK
  clear hK
  go_wp2_with fail
  refine (H25.out _ _ _ _ _ PE.out PF.out).mono ?_
  rintro e w4 ⟨rfl, qq, rfl⟩
  have N0' : Hid ((w3.drewN qq).heap[B]? = some (.cells (pcP p (.slice sa s.length sc) (.slice ta t.length tc)) 26 (0, 0))) := N0.out
  have NB' : Hid (Below B w (w3.drewN qq)) := below_drewN NB.out _
  clear N0 NB PE PF
  have N0 := N0'
  have NB := NB'
  clear N0' NB'
  generalize w3.drewN qq = Y3 at *
  go_wp2
  refine HK.out _ _ ?_
  clear HK KK
  refine wp_seq_k fun KK hK => ?_
  have HK := TW.hide hK
  clear hK
  go_wp2_with (refine wpList_load_row (by rfl) 26 _ (by rfl) (B) (by rfl) 26 (pcP p (.slice sa s.length sc) (.slice ta t.length tc)) (0, 0) _ N0.out Try.underlying26 rfl (info31 _ _ _) ?_)
  refine (HC.out _ NB.out).mono ?_
  rintro e w5 ⟨a2, c2, b2, d2, rfl, pa, pb, hbb⟩
  have N0' := TW.hide (blk_keep N0.out hbb)
  have NB' : Hid (Below B w w5) := below_row NB.out hbb (by have := blk_lt N0.out; omega)
  clear N0 NB hbb 
  have N0 := N0'
  have NB := NB'
  clear N0' NB' 
  have PA := TW.hide pa
  have PB := TW.hide pb
  clear pa pb
  go_wp2_with fail
  refine (H26.out _ _ _ _ _ PA.out PB.out).mono ?_
  rintro e w6 ⟨va, vc, rfl, rv, hbb⟩
  have N0' := TW.hide (blk_keep N0.out hbb)
  have NB' : Hid (Below B w w6) := below_row NB.out hbb (by have := blk_lt N0.out; omega)
  clear N0 NB hbb 
  have N0 := N0'
  have NB := NB'
  clear N0' NB' 
  have RV := TW.hide rv
  clear rv PA PB
  go_wp2
  refine HK.out _ _ ?_
  clear HK KK
  refine wp_seq_k fun KK hK => ?_
  have HK := TW.hide hK
  clear hK
  go_wp2_with (refine wpList_load_row (by rfl) 26 _ (by rfl) (B) (by rfl) 26 (pcP p (.slice sa s.length sc) (.slice ta t.length tc)) (0, 0) _ N0.out Try.underlying26 rfl (info31 _ _ _) ?_)
  refine (H27.out _ NB.out).mono ?_
  rintro e w7 ⟨ua, uc, rfl, ru, hbb⟩
  have N0' := TW.hide (blk_keep N0.out hbb)
  have NB' : Hid (Below B w w7) := below_row NB.out hbb (by have := blk_lt N0.out; omega)
  have RV' := TW.hide (RV.out.below hbb)
  clear N0 NB hbb RV
  have N0 := N0'
  have NB := NB'
  have RV := RV'
  clear N0' NB' RV'
  have RU := TW.hide ru
  clear ru
  go_wp2
  refine HK.out _ _ ?_
  clear HK KK
  refine wp_seq_k fun KK hK => ?_
  have HK := TW.hide hK
  clear hK
  go_wp2
  refine HK.out _ _ ?_
  clear HK KK
  go_wp2
  go_loopw [11] (fun i wr => ∃ (k q : Nat), k ≤ vl ∧ i = .int .i64 k ∧ wr = w7.drewN q) (fun i _ => vl - (intOf i).toNat)
  case atStart => exact ⟨0, 0, Nat.zero_le _, rfl, rfl⟩
  case round =>
    obtain ⟨k, q, hk, rfl, rfl⟩ := hrel
    by_cases hlt : k < vl
    · obtain ⟨g1, e1, cc1⟩ : ∃ g, va = some ⟨g, 0, none⟩ ∧ w7.cell? ⟨g, k, none⟩ = some (.int .u64 (V.getD k 0)) := by
        rcases RV.out with h | ⟨g, e, h⟩
        · subst h; simp at hVL; omega
        · exact ⟨g, e, h k (by omega)⟩
      obtain ⟨g2, e2, cc2⟩ : ∃ g, ua = some ⟨g, 0, none⟩ ∧ w7.cell? ⟨g, k, none⟩ = some (.int .u64 (V.getD k 0)) := by
        rcases RU.out with h | ⟨g, e, h⟩
        · subst h; simp at hVL; omega
        · exact ⟨g, e, h k (by omega)⟩
      clear RV RU
      subst e1 e2
      generalize V.getD k 0 = z at *
      have hzz : (z != z) = false := by simp
      have k0 : (0 : Int) ≤ (k : Int) := by omega
      have k1 : (k : Int) < (vl : Int) := by omega
      go_wp2
      go_quiet (fail)
      go_wp2
      (first | (go_roundw; case' rel => skip) | (refine ⟨?_, ?measure⟩; (repeat apply Exists.intro); refine ⟨?rel, rfl⟩))
      case rel => exact ⟨k + 1, _, by omega, by go_num, rfl⟩
      case measure => simp [intOf]; omega
    · obtain rfl : k = vl := by omega
      clear RV RU
      go_wp2
      go_ret
      exact ⟨rfl, below_drewN NB.out _⟩
theorem encodesLaw (kd : Int) (p : Pm) (sa ta : Option Addr) (sc tc : Nat) (s t : List Int) (w : World) (_ : (Lit.int .i64 kd).wf = true) (hp : p.Ok) (h1 : Pb w sa sc s) (h2 : Pb w ta tc t) :
    Calls Try.prog 4 #[.int .i64 kd, .agg (pcP p (.slice sa s.length sc) (.slice ta t.length tc))] w fun e w' => e = .returned (.bool true) ∧ Below w.heap.size w w' := by
  have hs0 : ∀ (a c : _) (b d : _) (W : World), Pb W a c s → Pb W b d t → Calls Try.prog 17 #[.int .i64 kd, .agg (pcP p (.slice a s.length c) (.slice b t.length d))] W fun e w' => ∃ a c, e = .returned (.tuple #[.slice a (eS (p.ck kd s.length t.length) (enL kd p s t)).length c, .int .i64 (p.ck kd s.length t.length)]) ∧ Pa w' a c (eS (p.ck kd s.length t.length) (enL kd p s t)) ∧ Below W.heap.size W w' := fun a c b d W g1 g2 =>
    (encP kd p hp a b c d s t W g1 g2).mono fun e w' ⟨a, c, e1, e2, _, _, e3⟩ => ⟨a, c, e1, e2, e3⟩
  have hr0 : ∀ (a c : _) (b d : _) (W : World), Pb W a c s → Pb W b d t → Calls Try.prog 18 #[.int .i64 kd, .agg (pcP p (.slice a s.length c) (.slice b t.length d))] W fun e w' => ∃ a c, e = .returned (.tuple #[.slice a (eS (p.ck kd s.length t.length) (enL kd p s t)).length c, .int .i64 (p.ck kd s.length t.length)]) ∧ Pa w' a c (eS (p.ck kd s.length t.length) (enL kd p s t)) ∧ Below W.heap.size W w' := fun a c b d W g1 g2 =>
    (rencP kd p hp a b c d s t W g1 g2).mono fun e w' ⟨a, c, e1, e2, _, _, e3⟩ => ⟨a, c, e1, e2, e3⟩
  have hw0 : ∀ (a c : _) (b d : _) (W : World), Pb W a c s → Pb W b d t → Calls Try.prog 20 #[.int .i64 kd, .agg (pcP p (.slice a s.length c) (.slice b t.length d))] W fun e w' => ∃ a c, e = .returned (.tuple #[.slice a (eS (p.ck kd s.length t.length) (woL kd (enL kd p s t))).length c, .int .i64 (p.ck kd s.length t.length)]) ∧ RowU w' a (eS (p.ck kd s.length t.length) (woL kd (enL kd p s t))) ∧ Below W.heap.size W w' := fun a c b d W g1 g2 => by
    by_cases hE : p.ck kd s.length t.length = 0
    · have h := words26 kd (enL kd p s t) p a b c d s t W (TW.hide fun Y hb => by have := hs0 a c b d Y (g1.below hb) (g2.below hb); rw [hE] at this; exact this) (ck_kind hE) (enL_length kd p s t hE) (enL_byt kd p s t h1.byt h2.byt)
      rw [hE]
      simp only [eS, if_true, woL_length]
      exact h
    · exact words26E kd (p.ck kd s.length t.length) (enL kd p s t) p a b c d s t W (TW.hide fun Y hb => hs0 a c b d Y (g1.below hb) (g2.below hb)) (bne0 hE)
  have hx0 : ∀ (a c : _) (b d : _) (W : World), Pb W a c s → Pb W b d t → Calls Try.prog 21 #[.int .i64 kd, .agg (pcP p (.slice a s.length c) (.slice b t.length d))] W fun e w' => ∃ a c, e = .returned (.tuple #[.slice a (eS (p.ck kd s.length t.length) (woL kd (enL kd p s t))).length c, .int .i64 (p.ck kd s.length t.length)]) ∧ RowU w' a (eS (p.ck kd s.length t.length) (woL kd (enL kd p s t))) ∧ Below W.heap.size W w' := fun a c b d W g1 g2 => by
    by_cases hE : p.ck kd s.length t.length = 0
    · have h := words27 kd (enL kd p s t) p a b c d s t W (TW.hide fun Y hb => by have := hr0 a c b d Y (g1.below hb) (g2.below hb); rw [hE] at this; exact this) (ck_kind hE) (enL_length kd p s t hE) (enL_byt kd p s t h1.byt h2.byt)
      rw [hE]
      simp only [eS, if_true, woL_length]
      exact h
    · exact words27E kd (p.ck kd s.length t.length) (enL kd p s t) p a b c d s t W (TW.hide fun Y hb => hr0 a c b d Y (g1.below hb) (g2.below hb)) (bne0 hE)
  refine encodesGen kd (p.ck kd s.length t.length) (eS (p.ck kd s.length t.length) (enL kd p s t)) (eS (p.ck kd s.length t.length) (woL kd (enL kd p s t))) p sa ta sc tc s t w
    (TW.hide fun W hb => (copiedP p sa ta sc tc s t W (h1.row.below hb) (h2.row.below hb) h1.nil h2.nil h1.len h2.len).mono ?_)
    (TW.hide fun a c b d W g1 g2 => hs0 a c b d W g1.toPb g2.toPb) (TW.hide fun W hb => hr0 sa sc ta tc W (h1.below hb) (h2.below hb))
    (TW.hide fun a c b d W g1 g2 => hw0 a c b d W g1.toPb g2.toPb) (TW.hide fun W hb => hx0 sa sc ta tc W (h1.below hb) (h2.below hb))
    (TW.hide fun a c a' c' W g1 g2 => ?_) ?_
  · rintro e w' ⟨x, y, rfl, ox, oy, hb'⟩
    obtain ⟨a, c, rfl, pa⟩ := Pa.own ox h1.len h1.byt
    obtain ⟨b, d, rfl, pb⟩ := Pa.own oy h2.len h2.byt
    exact ⟨a, c, b, d, rfl, pa, pb, hb'⟩
  · have h := same a a' c c' _ _ W g1.row g2.row (by have := g1.len; unfold maxLen; omega) (by have := g1.len; unfold maxLen; omega)
    rw [decide_eq_true rfl] at h
    exact h
  · unfold eS
    split
    · rw [woL_length]; omega
    · simp
end LW
end Go.Proofs.Ytpcahieaakjaaaa
