/-
  The law ParamTwins at all parameters.
-/
import Derived.Test.YtpcahieaakjaaaaTwinsWalk
import Derived.Test.YtpcahieaakjaaaaDecodesWalk
namespace Go.Proofs.Ytpcahieaakjaaaa
open Go.RowKit
set_option linter.unusedVariables false
set_option linter.unusedSimpArgs false
namespace LW
open Words
theorem beq_of_bne {x : Int} {b : Bool} (h : (x != 0) = b) : (x == 0) = !b := by
  subst h
  cases hh : x == 0 <;> simp [bne, hh]
set_option maxHeartbeats 2000000 in
theorem ckG_len {m m4 : Int} {x : Bool} {s6 s7 : Nat} {d k f dp off xof nd inn : Int} {sl tl sl' tl' : Nat} (h : ckG m m4 x s6 s7 d k f dp off xof nd inn sl tl = 0) (h1 : (sl' : Int) ≤ m4) (h2 : (tl' : Int) ≤ m4) :
    ckG m m4 x s6 s7 d k f dp off xof nd inn sl' tl' = 0 := by
  unfold ckG at h
  repeat' split at h
  all_goals first | (exfalso; omega) | skip
  rename_i c1 c2 c3 c4 c5 c6 c7 c8 c9 c10 c11
  unfold ckG
  rw [if_neg c1, if_neg c2, if_neg c3, if_neg c4, if_neg c5, if_neg c6, if_neg c7, if_neg c8, if_neg c9, if_neg (by omega), if_neg (by omega)]
theorem ck_len {kd : Int} {p : Pm} {sl tl sl' tl' : Nat} (h : p.ck kd sl tl = 0) (h1 : sl' ≤ (mo kd / 4).toNat) (h2 : tl' ≤ (mo kd / 4).toNat) : p.ck kd sl' tl' = 0 := by
  unfold Pm.ck at *
  rcases ck_kind h with rfl | rfl
  · have e : (mo 1 / 4).toNat = 16 := rfl
    simp only [LW.ck, if_true] at h ⊢
    exact ckG_len h (by omega) (by omega)
  · have e : (mo 2 / 4).toNat = 8 := rfl
    simp only [LW.ck, if_true, show ((2 : Int) = 1) = False by simp, if_false] at h ⊢
    exact ckG_len h (by omega) (by omega)
theorem cl_of (kd : Int) (hk : kd = 1 ∨ kd = 2) (n : Nat) (h : n = (mo kd).toNat) : cl kd n = 0 := by
  subst h
  rcases hk with rfl | rfl <;> decide
theorem copied_Pa (p : Pm) (sa ta : Option Addr) (sc tc : Nat) (s t : List Int) (W : World) (h1 : Pb W sa sc s) (h2 : Pb W ta tc t) :
    Calls Try.prog 10 #[.agg (pcP p (.slice sa s.length sc) (.slice ta t.length tc))] W fun e w' => ∃ a c b d, e = .returned (.agg (pcP p (.slice a s.length c) (.slice b t.length d))) ∧ Pa w' a c s ∧ Pa w' b d t ∧ Below W.heap.size W w' := by
  refine (copiedP p sa ta sc tc s t W h1.row h2.row h1.nil h2.nil h1.len h2.len).mono ?_
  rintro e w' ⟨x, y, rfl, ox, oy, hb'⟩
  obtain ⟨a, c, rfl, pa⟩ := Pa.own ox h1.len h1.byt
  obtain ⟨b, d, rfl, pb⟩ := Pa.own oy h2.len h2.byt
  exact ⟨a, c, b, d, rfl, pa, pb, hb'⟩
theorem alike_Pa (P : Pm) (S T : List Int) (a : Option Addr) (c : Nat) (b : Option Addr) (d : Nat) (a' : Option Addr) (c' : Nat) (b' : Option Addr) (d' : Nat) (W : World) (g1 : Pa W a c S) (g2 : Pa W b d T) (g3 : Pa W a' c' S) (g4 : Pa W b' d' T) :
    Calls Try.prog 14 #[.agg (pcP P (.slice a S.length c) (.slice b T.length d)), .agg (pcP P (.slice a' S.length c') (.slice b' T.length d'))] W fun e w' => e = .returned (.bool true) ∧ Below W.heap.size W w' :=
  alikeE _ _ _ _ _ _ _ _ _ a b a' b' c d c' d' _ _ W g1.row g2.row g3.row g4.row (by have := g1.len; unfold maxLen; omega) (by have := g2.len; unfold maxLen; omega)
/-- Twin of parameters that may be. -/
theorem twin_ok (kd : Int) (p : Pm) (hp : p.Ok) (s t : List Int) (hE : p.ck kd s.length t.length = 0) (sa ta : Option Addr) (sc tc : Nat) (W : World) (h1 : Pb W sa sc s) (h2 : Pb W ta tc t) :
    Calls Try.prog 25 #[.int .i64 kd, .agg (pcP p (.slice sa s.length sc) (.slice ta t.length tc))] W fun e w' => ∃ a c b d, e = .returned (.tuple #[.agg (pcP (nP (dE kd (p.xof == 0) (enL kd p s t)) (dP kd (p.xof == 0) (enL kd p s t))) (.slice a (nS (dE kd (p.xof == 0) (enL kd p s t)) (saL kd (enL kd p s t))).length c) (.slice b (nS (dE kd (p.xof == 0) (enL kd p s t)) (peL kd (enL kd p s t))).length d)), .bool (dE kd (p.xof == 0) (enL kd p s t) == 0), .int .i64 0]) ∧
      Pa w' a c (nS (dE kd (p.xof == 0) (enL kd p s t)) (saL kd (enL kd p s t))) ∧ Pa w' b d (nS (dE kd (p.xof == 0) (enL kd p s t)) (peL kd (enL kd p s t))) ∧ Below W.heap.size W w' := by
  have hb := enL_byt kd p s t h1.byt h2.byt
  have hl := enL_length kd p s t hE
  have hm := mo_le kd
  refine twin31 kd _ (enL kd p s t) _ _ p _ sa ta sc tc s t W (TW.hide fun Y hY => (encP kd p hp sa ta sc tc s t Y (h1.below hY) (h2.below hY)).mono ?_) (TW.hide fun a c Y g1 g2 => (decP kd (p.xof == 0) a c _ Y g1 g2).mono fun e w' h' => says_open hb (by omega) h')
  rintro e w' ⟨a, c, e1, e2, e3, _, e4⟩
  rw [hE] at e1 e2
  exact ⟨a, c, e1, e2, e3, e4⟩
theorem rtwin_ok (kd : Int) (p : Pm) (hp : p.Ok) (s t : List Int) (hE : p.ck kd s.length t.length = 0) (sa ta : Option Addr) (sc tc : Nat) (W : World) (h1 : Pb W sa sc s) (h2 : Pb W ta tc t) :
    Calls Try.prog 26 #[.int .i64 kd, .agg (pcP p (.slice sa s.length sc) (.slice ta t.length tc))] W fun e w' => ∃ a c b d, e = .returned (.tuple #[.agg (pcP (nP (dE kd (p.xof == 0) (enL kd p s t)) (dP kd (p.xof == 0) (enL kd p s t))) (.slice a (nS (dE kd (p.xof == 0) (enL kd p s t)) (saL kd (enL kd p s t))).length c) (.slice b (nS (dE kd (p.xof == 0) (enL kd p s t)) (peL kd (enL kd p s t))).length d)), .bool (dE kd (p.xof == 0) (enL kd p s t) == 0), .int .i64 0]) ∧
      Pa w' a c (nS (dE kd (p.xof == 0) (enL kd p s t)) (saL kd (enL kd p s t))) ∧ Pa w' b d (nS (dE kd (p.xof == 0) (enL kd p s t)) (peL kd (enL kd p s t))) ∧ Below W.heap.size W w' := by
  have hb := enL_byt kd p s t h1.byt h2.byt
  have hl := enL_length kd p s t hE
  have hm := mo_le kd
  refine twin32 kd _ (enL kd p s t) _ _ p _ sa ta sc tc s t W (TW.hide fun Y hY => (rencP kd p hp sa ta sc tc s t Y (h1.below hY) (h2.below hY)).mono ?_) (TW.hide fun a c Y g1 g2 => (rdecP kd (p.xof == 0) a c _ Y g1).mono fun e w' h' => says_open hb (by omega) h') (fun h => ?_)
  · rintro e w' ⟨a, c, e1, e2, e3, _, e4⟩
    rw [hE] at e1 e2
    exact ⟨a, c, e1, e2, e3, e4⟩
  · have h0 : ¬ dE kd (p.xof == 0) (enL kd p s t) = 0 := by simpa using h
    exact ⟨nP_err h0, nS_err h0, nS_err h0⟩
theorem twinsLaw (kd : Int) (p : Pm) (sa ta : Option Addr) (sc tc : Nat) (s t : List Int) (w : World) (_ : (Lit.int .i64 kd).wf = true) (hp : p.Ok) (h1 : Pb w sa sc s) (h2 : Pb w ta tc t) :
    Calls Try.prog 6 #[.int .i64 kd, .agg (pcP p (.slice sa s.length sc) (.slice ta t.length tc))] w fun e w' => e = .returned (.bool true) ∧ Below w.heap.size w w' := by
  by_cases hE : p.ck kd s.length t.length = 0
  · have hk := ck_kind hE
    have hsl := ck_salts hE
    have hl := enL_length kd p s t hE
    have hby := enL_byt kd p s t h1.byt h2.byt
    have hsa := sal_enc hE
    have hde := dec_enc hp hE
    have ht := fun a c b d W (g1 : Pa W a c s) (g2 : Pa W b d t) => twin_ok kd p hp s t hE a b c d W g1.toPb g2.toPb
    have hr := fun W (hb : Below w.heap.size w W) => rtwin_ok kd p hp s t hE sa ta sc tc W (h1.below hb) (h2.below hb)
    have henc := fun a c b d W (g1 : Pa W a c s) (g2 : Pa W b d t) => encOk kd p hp a b c d s t W hE g1.toPb g2.toPb
    by_cases hE2 : dE kd (p.xof == 0) (enL kd p s t) = 0
    · rw [hE2] at ht hr
      simp only [nP, nS, if_true, show ((0 : Int) == 0) = true from rfl] at ht hr
      have hcl := cl_of kd hk _ hl
      have hform : ((p.xof == 0) && ((dP kd (p.xof == 0) (enL kd p s t)).xof == 0)) = false ∧ (dP kd (p.xof == 0) (enL kd p s t)).ck kd (mo kd / 4).toNat (mo kd / 4).toNat = 0 := by
        have h := hE2
        unfold dE at h
        rw [if_pos hcl, if_pos hsa.2.2] at h
        split at h
        · exact absurd h (by decide)
        · rename_i hx
          exact ⟨by simpa using hx, h⟩
      have hx7 : ((dP kd (p.xof == 0) (enL kd p s t)).xof != 0) = (p.xof == 0) := by
        cases hx : p.xof == 0 with
        | true =>
          have := hform.1
          rw [hx] at this
          simpa [bne] using this
        | false =>
          show (fV kd false (enL kd p s t) 7 != 0) = false
          rw [fV7_false]; rfl
      have hback := enc_dec hk hby hl hsa.2.2 hx7
      have hpq := dP_Ok kd (p.xof == 0) (enL kd p s t) hby hk
      obtain ⟨l1, l2⟩ := sa_length kd (enL kd p s t) hk (by rw [hl]; rcases hk with rfl | rfl <;> rfl)
      have hckq : (dP kd (p.xof == 0) (enL kd p s t)).ck kd (tr (saL kd (enL kd p s t))).length (tr (peL kd (enL kd p s t))).length = 0 :=
        ck_len hform.2 (by have := tr_le (saL kd (enL kd p s t)); omega) (by have := tr_le (peL kd (enL kd p s t)); omega)
      have hx8 : ((dP kd (p.xof == 0) (enL kd p s t)).xof == 0) = (p.xof != 0) := beq_of_bne hx7
      have hE3 : dE kd (p.xof != 0) (enL kd p s t) = 0 := by
        unfold dE
        rw [if_pos hcl, if_pos hsa.2.2, hde, if_neg (by cases h9 : p.xof == 0 <;> simp [bne, h9])]
        exact ck_len hE (Nat.le_refl _) (Nat.le_refl _)
      have htq := fun a c b d W (g1 : Pa W a c (tr (saL kd (enL kd p s t)))) (g2 : Pa W b d (tr (peL kd (enL kd p s t)))) => twin_ok kd (dP kd (p.xof == 0) (enL kd p s t)) hpq _ _ hckq a b c d W g1.toPb g2.toPb
      rw [hback, hx8, hE3, hde] at htq
      simp only [nP, nS, if_true, show ((0 : Int) == 0) = true from rfl] at htq
      have hencq := fun a c b d W (g1 : Pa W a c (tr (saL kd (enL kd p s t)))) (g2 : Pa W b d (tr (peL kd (enL kd p s t)))) => encOk kd (dP kd (p.xof == 0) (enL kd p s t)) hpq a b c d _ _ W hckq g1.toPb g2.toPb
      rw [hback] at hencq
      have hnr := fun W (hb : Below w.heap.size w W) => rnormalP kd p hp sa ta sc tc s t W (h1.below hb) (h2.below hb)
      rw [hE] at hnr
      simp only [nP, nS, if_true] at hnr
      rw [hsa.1, hsa.2.1] at htq ht hr hencq
      have hm := mo_le kd
      refine twinsYes kd 0 p (dP kd (p.xof == 0) (enL kd p s t)) p sa ta sc tc s t (tr s) (tr t) (tr s) (tr t) (enL kd p s t) w
        (TW.hide fun W => alive W) (TW.hide fun W hb => copied_Pa p sa ta sc tc s t W (h1.below hb) (h2.below hb)) (TW.hide ht) (TW.hide hr) (TW.hide (alike_Pa _ _ _))
        (TW.hide fun a c b d W g1 g2 => (henc a c b d W g1 g2).mono ?_) (TW.hide fun a c b d W g1 g2 => copied_Pa _ a b c d _ _ W g1.toPb g2.toPb) (TW.hide fun a c b d W g1 g2 => (hencq a c b d W g1 g2).mono ?_)
        (TW.hide htq) (TW.hide fun W hb => (hnr W hb).mono ?_) (TW.hide fun a c a' c' W g1 g2 => ?_) (TW.hide (alike_Pa _ _ _)) ?_
      · rintro e w' ⟨g, rfl, hg, hh, hb'⟩
        exact ⟨_, _, rfl, blk_Pa hh hby (by omega), hb'⟩
      · rintro e w' ⟨g, rfl, hg, hh, hb'⟩
        exact ⟨_, _, rfl, blk_Pa hh hby (by omega), hb'⟩
      · rintro e w' ⟨x, y, rfl, ox, oy, hb'⟩
        obtain ⟨a, c, rfl, pa⟩ := Pa.own ox (Nat.le_trans (tr_le s) h1.len) (Byt.tr h1.byt)
        obtain ⟨b, d, rfl, pb⟩ := Pa.own oy (Nat.le_trans (tr_le t) h2.len) (Byt.tr h2.byt)
        exact ⟨a, c, b, d, rfl, pa, pb, hb'⟩
      · have h := same a a' c c' _ _ W g1.row g2.row (by have := g1.len; unfold maxLen; omega) (by have := g1.len; unfold maxLen; omega)
        rw [decide_eq_true rfl] at h
        exact h
      · rw [hx8]
        cases h9 : p.xof == 0 <;> simp [bne, h9]
    · have hf : (dE kd (p.xof == 0) (enL kd p s t) == 0) = false := by simpa using hE2
      rw [hf] at ht hr
      exact twinsNo kd 0 p _ sa ta sc tc s t _ _ w (TW.hide fun W => alive W) (TW.hide fun W hb => copied_Pa p sa ta sc tc s t W (h1.below hb) (h2.below hb)) (TW.hide ht) (TW.hide hr) (TW.hide (alike_Pa _ _ _))
  · refine twinsNo kd (p.ck kd s.length t.length) p Pm.zero sa ta sc tc s t [] [] w (TW.hide fun W => alive W) (TW.hide fun W hb => copied_Pa p sa ta sc tc s t W (h1.below hb) (h2.below hb))
      (TW.hide fun a c b d W g1 g2 => (twin31E kd _ (eS (p.ck kd s.length t.length) (enL kd p s t)) p a b c d s t W (TW.hide fun Y hY => (encP kd p hp a b c d s t Y (g1.toPb.below hY) (g2.toPb.below hY)).mono ?_) (bne0 hE)).mono ?_)
      (TW.hide fun W hb => (twin32E kd _ (eS (p.ck kd s.length t.length) (enL kd p s t)) p sa ta sc tc s t W (TW.hide fun Y hY => (rencP kd p hp sa ta sc tc s t Y ((h1.below hb).below hY) ((h2.below hb).below hY)).mono ?_) (bne0 hE)).mono ?_) (TW.hide (alike_Pa _ _ _))
    · rintro e w' ⟨a, c, e1, e2, e3, _, e4⟩
      exact ⟨a, c, e1, e2, e3, e4⟩
    · rintro e w' ⟨rfl, hb'⟩
      exact ⟨none, 0, none, 0, rfl, nil_Pa _, nil_Pa _, hb'⟩
    · rintro e w' ⟨a, c, e1, e2, e3, _, e4⟩
      exact ⟨a, c, e1, e2, e3, e4⟩
    · rintro e w' ⟨rfl, hb'⟩
      exact ⟨none, 0, none, 0, rfl, nil_Pa _, nil_Pa _, hb'⟩
end LW
end Go.Proofs.Ytpcahieaakjaaaa
