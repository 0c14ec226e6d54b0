/-
  What the law ParamUnlike does: parameters of one form have one block just if they are the same.
-/
import Derived.Test.YtpcahieaakjaaaaAliveP
import Derived.Test.YtpcahieaakjaaaaTheory
import Derived.Test.YtpcahieaakjaaaaSame
import Derived.Test.YtpcahieaakjaaaaOrder
namespace Go.Proofs.Ytpcahieaakjaaaa
open Go.RowKit Go.ChangeShapes
set_option linter.unusedVariables false
set_option linter.unusedSimpArgs false
namespace LW
open Words
attribute [local go_sem ↓] Go.wp_at_zero Go.wp_at_succ
theorem tr_getD (s : List Int) (i : Nat) : (tr s).getD i 0 = s.getD i 0 := by
  rcases Nat.lt_or_ge i (tr s).length with h | h
  · have hl := tr_le s
    have h2 : i < tn s s.length := by rw [← tr_length]; exact h
    unfold tr
    rw [List.getD_eq_getElem?_getD, List.getElem?_take, if_pos h2, ← List.getD_eq_getElem?_getD]
  · rw [getD_past _ i h]
    rcases Nat.lt_or_ge i s.length with h2 | h2
    · exact (tr_zero s i h h2).symm
    · exact (getD_past s i h2).symm
theorem tr_same {s s' : List Int} (h : tr s = tr s') (i : Nat) : s.getD i 0 = s'.getD i 0 := by
  rw [← tr_getD s, ← tr_getD s', h]
/-- One block just of the same parameters. -/
theorem enL_same {kd : Int} {p q : Pm} (hp : p.Ok) (hq : q.Ok) {s t s' t' : List Int} (h : p.ck kd s.length t.length = 0) (h' : q.ck kd s'.length t'.length = 0) (hx : (p.xof == 0) = (q.xof == 0)) :
    decide (enL kd p s t = enL kd q s' t') = @decide (p = q ∧ tr s = tr s' ∧ tr t = tr t') (Pm.decA p q (tr s) (tr s') (tr t) (tr t')) := by
  have hx' : (p.xof != 0) = (q.xof != 0) := by simp only [bne, hx]
  rw [decide_eq_decide]
  constructor
  · intro e
    refine ⟨?_, ?_, ?_⟩
    · rw [← dec_enc hp h, ← dec_enc hq h', hx', e]
    · rw [← (sal_enc h).1, ← (sal_enc h').1, e]
    · rw [← (sal_enc h).2.1, ← (sal_enc h').2.1, e]
  · rintro ⟨rfl, e1, e2⟩
    have hk := ck_kind h
    have hs := ck_salts h
    have hs' := ck_salts h'
    have hn := kind_nums kd hk
    obtain ⟨_, hbd, _⟩ := spans kd (p.xof != 0) hk
    have hz : ∀ i, (if kd = 1 then 18 else 16 : Nat) ≤ i → (enP kd p 9).getD i 0 = 0 := fun i hi => enP_zero kd p hk 9 i (by omega) (fun f h1 h2 hc => by have := hbd f (by omega) h1; omega)
    refine ext_getD (by rw [enL_length kd p s t h, enL_length kd p s' t' h']) (fun i hi => ?_)
    rw [enL_getD kd p s t hk hs.1 hs.2, enL_getD kd p s' t' hk hs'.1 hs'.2]
    have a1 := tr_same e1 (i - 2 * (mo kd / 4).toNat)
    have a2 := tr_same e2 (i - 3 * (mo kd / 4).toNat)
    have b1 : ∀ (l : List Int) (j : Nat), l.length ≤ j → l.getD j 0 = 0 := getD_past
    rcases Nat.lt_or_ge i (2 * (mo kd / 4).toNat) with c | c
    · rw [if_neg (by omega), if_neg (by omega), if_neg (by omega), if_neg (by omega)]
    · have z := hz i (by omega)
      rcases Nat.lt_or_ge i (3 * (mo kd / 4).toNat) with d | d
      · rw [if_neg (show ¬ (3 * (mo kd / 4).toNat ≤ i ∧ i < 3 * (mo kd / 4).toNat + t.length) by omega), if_neg (show ¬ (3 * (mo kd / 4).toNat ≤ i ∧ i < 3 * (mo kd / 4).toNat + t'.length) by omega)]
        by_cases u : i < 2 * (mo kd / 4).toNat + s.length
        · rw [if_pos (show 2 * (mo kd / 4).toNat ≤ i ∧ i < 2 * (mo kd / 4).toNat + s.length from ⟨c, u⟩)]
          by_cases u' : i < 2 * (mo kd / 4).toNat + s'.length
          · rw [if_pos (show 2 * (mo kd / 4).toNat ≤ i ∧ i < 2 * (mo kd / 4).toNat + s'.length from ⟨c, u'⟩)]; exact a1
          · rw [if_neg (show ¬ (2 * (mo kd / 4).toNat ≤ i ∧ i < 2 * (mo kd / 4).toNat + s'.length) by omega), z, a1]; exact b1 _ _ (by omega)
        · rw [if_neg (show ¬ (2 * (mo kd / 4).toNat ≤ i ∧ i < 2 * (mo kd / 4).toNat + s.length) by omega), z]
          by_cases u' : i < 2 * (mo kd / 4).toNat + s'.length
          · rw [if_pos (show 2 * (mo kd / 4).toNat ≤ i ∧ i < 2 * (mo kd / 4).toNat + s'.length from ⟨c, u'⟩), ← a1]; exact (b1 _ _ (by omega)).symm
          · rw [if_neg (show ¬ (2 * (mo kd / 4).toNat ≤ i ∧ i < 2 * (mo kd / 4).toNat + s'.length) by omega)]
      · rw [if_neg (show ¬ (2 * (mo kd / 4).toNat ≤ i ∧ i < 2 * (mo kd / 4).toNat + s.length) by omega), if_neg (show ¬ (2 * (mo kd / 4).toNat ≤ i ∧ i < 2 * (mo kd / 4).toNat + s'.length) by omega), z]
        by_cases u : i < 3 * (mo kd / 4).toNat + t.length
        · rw [if_pos ⟨d, u⟩]
          by_cases u' : i < 3 * (mo kd / 4).toNat + t'.length
          · rw [if_pos ⟨d, u'⟩]; exact a2
          · rw [if_neg (by omega), a2]; exact b1 _ _ (by omega)
        · rw [if_neg (by omega)]
          by_cases u' : i < 3 * (mo kd / 4).toNat + t'.length
          · rw [if_pos ⟨d, u'⟩, ← a2]; exact (b1 _ _ (by omega)).symm
          · rw [if_neg (by omega)]
theorem blk_keep' {w w' : World} {b : Nat} {o : Obj} (h : w.heap[b]? = some o) (hb : Below w.heap.size w w') : w'.heap[b]? = some o := by
  rw [hb.block b (Array.getElem?_eq_some_iff.1 h).1]; exact h
theorem blk_lt' {w : World} {b : Nat} {o : Obj} (h : w.heap[b]? = some o) : b < w.heap.size := (Array.getElem?_eq_some_iff.1 h).1
theorem copiedA (p : Pm) (sa ta : Option Addr) (sc tc : Nat) (s t : List Int) (w : World) (h1 : Pb w sa sc s) (h2 : Pb w ta tc t) :
    Calls Try.prog 10 #[.agg (pcP p (.slice sa s.length sc) (.slice ta t.length tc))] w fun e w' => ∃ a c b d, e = .returned (.agg (pcP p (.slice a s.length c) (.slice b t.length d))) ∧ Pa w' a c s ∧ Pa w' b d t ∧ Below w.heap.size w w' := by
  refine (copiedP p sa ta sc tc s t w h1.row h2.row h1.nil h2.nil h1.len h2.len).mono ?_
  rintro e w' ⟨x, y, rfl, ox, oy, hb⟩
  obtain ⟨a, c, rfl, pa⟩ := Pa.own ox h1.len h1.byt
  obtain ⟨b, d, rfl, pb⟩ := Pa.own oy h2.len h2.byt
  exact ⟨a, c, b, d, rfl, pa, pb, hb⟩
set_option maxRecDepth 100000 in
set_option maxHeartbeats 1000000 in
theorem unlike (kd : Int) (p : Pm) (sa ta : Option Addr) (sc tc : Nat) (s t : List Int) (q : Pm) (sa' ta' : Option Addr) (sc' tc' : Nat) (s' t' : List Int) (w : World) (hp : p.Ok) (hq : q.Ok) (h1 : Pb w sa sc s) (h2 : Pb w ta tc t) (h3 : Pb w sa' sc' s') (h4 : Pb w ta' tc' t') :
    Calls Try.prog 7 #[.int .i64 kd, .agg (pcP p (.slice sa s.length sc) (.slice ta t.length tc)), .agg (pcP q (.slice sa' s'.length sc') (.slice ta' t'.length tc'))] w fun e w' => e = .returned (.bool true) ∧ Below w.heap.size w w' := by
  have c1 := fun Y (hb : Below w.heap.size w Y) => copiedA p sa ta sc tc s t Y (h1.below hb) (h2.below hb)
  have c2 := fun Y (hb : Below w.heap.size w Y) => copiedA q sa' ta' sc' tc' s' t' Y (h3.below hb) (h4.below hb)
  have sm := fun a c b d a' c' b' d' Y (x1 : Pa Y a c s) (x2 : Pa Y b d t) (x3 : Pa Y a' c' s') (x4 : Pa Y b' d' t') => sameP kd p q hp hq a b a' b' c d c' d' s t s' t' Y x1 x2 x3 x4
  have en1 := fun a c b d Y (x1 : Pa Y a c s) (x2 : Pa Y b d t) => encP kd p hp a b c d s t Y x1.toPb x2.toPb
  have en2 := fun a c b d Y (x1 : Pa Y a c s') (x2 : Pa Y b d t') => encP kd q hq a b c d s' t' Y x1.toPb x2.toPb
  have key := fun (e1 : p.ck kd s.length t.length = 0) (e2 : q.ck kd s'.length t'.length = 0) hx => enL_same hp hq e1 e2 hx
  have hal := fun Y => alive Y
  have sme := fun a a' c c' Y (r1 : Row Y a (enL kd p s t)) (r2 : Row Y a' (enL kd q s' t')) m1 m2 => same a a' c c' (enL kd p s t) (enL kd q s' t') Y r1 r2 m1 m2
  unfold EncSays at en1 en2
  generalize enL kd p s t = L1 at *
  generalize enL kd q s' t' = L2 at *
  generalize p.ck kd s.length t.length = E1 at *
  generalize q.ck kd s'.length t'.length = E2 at *
  have i1 := info31 p (.slice sa s.length sc) (.slice ta t.length tc)
  have i2 := info31 q (.slice sa' s'.length sc') (.slice ta' t'.length tc')
  generalize hsl : s.length = sl at *
  generalize htl : t.length = tl at *
  generalize hsl' : s'.length = sl' at *
  generalize htl' : t'.length = tl' at *
  have hb := ((Below.refl w.heap.size w).alloc (Nat.le_refl _) (.cells (pcP p (.slice sa sl sc) (.slice ta tl tc)) 26)).alloc (by simp) (.cells (pcP q (.slice sa' sl' sc') (.slice ta' tl' tc')) 26)
  have n0 : ((w.alloc (.cells (pcP p (.slice sa sl sc) (.slice ta tl tc)) 26)).alloc (.cells (pcP q (.slice sa' sl' sc') (.slice ta' tl' tc')) 26)).heap[w.heap.size]? = some (.cells (pcP p (.slice sa sl sc) (.slice ta tl tc)) 26 (0, 0)) := by
    rw [Below.heap_alloc _ _ _ (by simp)]; exact heap_new w _
  have n1 : ((w.alloc (.cells (pcP p (.slice sa sl sc) (.slice ta tl tc)) 26)).alloc (.cells (pcP q (.slice sa' sl' sc') (.slice ta' tl' tc')) 26)).heap[w.heap.size + 1]? = some (.cells (pcP q (.slice sa' sl' sc') (.slice ta' tl' tc')) 26 (0, 0)) := by
    have := heap_new (w.alloc (.cells (pcP p (.slice sa sl sc) (.slice ta tl tc)) 26)) (.cells (pcP q (.slice sa' sl' sc') (.slice ta' tl' tc')) 26)
    rw [show (w.alloc (.cells (pcP p (.slice sa sl sc) (.slice ta tl tc)) 26)).heap.size = w.heap.size + 1 by simp] at this
    exact this
  have C1 := TW.hide c1
  have C2 := TW.hide c2
  have SM := TW.hide sm
  have EN1 := TW.hide en1
  have EN2 := TW.hide en2
  have KEY := TW.hide key
  have HAL := TW.hide hal
  have SME := TW.hide sme
  have I1 := TW.hide i1
  have I2 := TW.hide i2
  clear c1 c2 sm en1 en2 key hal sme i1 i2 h1 h2 h3 h4 hp hq hsl htl hsl' htl'
  go_enter Try.func7, Try.ntmps7
  refine wp_seq_k fun K hK => ?_
  have HK := TW.hide hK
  clear hK
  go_wp2
  refine HK.out _ _ ?_
  clear HK K
  change Code.wp _ _ _ _ ((w.alloc (.cells (pcP p (.slice sa sl sc) (.slice ta tl tc)) 26)).alloc (.cells (pcP q (.slice sa' sl' sc') (.slice ta' tl' tc')) 26))
  generalize (w.alloc (.cells (pcP p (.slice sa sl sc) (.slice ta tl tc)) 26)).alloc (.cells (pcP q (.slice sa' sl' sc') (.slice ta' tl' tc')) 26) = W at hb n0 n1 ⊢
  generalize hB : w.heap.size = B at *
  have M0 := TW.hide n0
  have M1 := TW.hide n1
  have MB := TW.hide hb
  clear n0 n1 hb
  refine wp_seq_k fun KK hK => ?_
  have HK := TW.hide hK
  clear hK
  go_wp2_with fail
  refine (HAL.out _).mono ?_
  rintro e w1 ⟨rfl, hb1⟩
  have N0 := TW.hide (blk_keep' M0.out hb1)
  have N1 := TW.hide (blk_keep' M1.out hb1)
  have hBW : B < W.heap.size := blk_lt' M0.out
  have NB : Hid (Below B w w1) := MB.out.trans (hb1.mono (by omega))
  have hB1 : B ≤ w1.heap.size := by have := hb1.size; omega
  have HT : Hid (Below w1.heap.size w1 w1) := Below.refl _ _
  clear hb1 M0 M1 MB
  go_wp2
  refine HK.out _ _ ?_
  clear HK KK
  refine wp_seq_k fun KK hK => ?_
  have HK0 := TW.hide hK
  clear hK
  refine wp_region_noPanic ?_
  refine RG.wp_region_L (fun Z => True) (fun Z => Below w1.heap.size w1 Z) [] (by kernel_rfl) ?_
  refine RG.wpL_any fun Y hY => ?_
  have HY : Hid (Below w1.heap.size w1 Y) := by rw [hY]; exact below_drewN HT.out 1
  clear hY HT
  refine RG.wpL_take (fuel := 8) (a' := ?A) [0, 1, 3] (by kernel_rfl) (by kernel_rfl) (fun _ _ _ _ _ h => h) HY.out (fun _ => trivial) ?r ?_
  case r =>
    refine RG.RunsIf.weak (v := ?_) (by rfl) (by rfl) (fun Z hT => ?_) ?_
    rotate_left
    · go_simp
      rfl
    simp only [Act.put, List.setIfInBounds_toArray, List.set_cons_zero, List.set_cons_succ, List.getElem_toArray, List.getElem_cons_zero, List.getElem_cons_succ]
    refine RG.RunsIf.weak (v := .agg (pcP p (.slice sa sl sc) (.slice ta tl tc))) (by rfl) (by rfl) (fun Z hT => exec_load_row 26 _ (by rfl) (B) (by rfl) 26 (pcP p (.slice sa sl sc) (.slice ta tl tc)) (0, 0) _ (blk_keep' N0.out hT) Try.underlying26 rfl I1.out) ?_
    simp only [Act.put, List.setIfInBounds_toArray, List.set_cons_zero, List.set_cons_succ, List.getElem_toArray, List.getElem_cons_zero, List.getElem_cons_succ]
    refine RG.RunsIf.weak (v := .agg (pcP q (.slice sa' sl' sc') (.slice ta' tl' tc'))) (by rfl) (by rfl) (fun Z hT => exec_load_row 26 _ (by rfl) (B + 1) (by rfl) 26 (pcP q (.slice sa' sl' sc') (.slice ta' tl' tc')) (0, 0) _ (blk_keep' N1.out hT) Try.underlying26 rfl I2.out) ?_
    simp only [Act.put, List.setIfInBounds_toArray, List.set_cons_zero, List.set_cons_succ, List.getElem_toArray, List.getElem_cons_zero, List.getElem_cons_succ]
    exact RG.RunsIf.nil
  refine RG.wpL_step (i := 2) (by kernel_rfl) (by rfl) (by rfl) (fun KX hK => ?_)
  have HK := TW.hide hK
  clear hK
  go_simp
  refine (C1.out Y (hB ▸ (NB.out.trans (HY.out.mono hB1)))).mono ?_
  rintro e w2 ⟨a, c, b, d, rfl, pa, pb, hb2⟩
  have H2 : Hid (Below w1.heap.size w1 w2) := HY.out.trans (hb2.mono HY.out.size)
  have A1 := TW.hide pa
  have A2 := TW.hide pb
  refine HK.out _ _ H2.out (fun _ => trivial) ?_
  clear HK KX hb2 HY pa pb
  refine RG.wpL_step (i := 4) (by kernel_rfl) (by rfl) (by rfl) (fun KX hK => ?_)
  have HK := TW.hide hK
  clear hK
  go_simp
  refine (C2.out w2 (hB ▸ (NB.out.trans (H2.out.mono hB1)))).mono ?_
  rintro e w3 ⟨a', c', b', d', rfl, pa, pb, hb3⟩
  have H3 : Hid (Below w1.heap.size w1 w3) := H2.out.trans (hb3.mono H2.out.size)
  have A3 := TW.hide pa
  have A4 := TW.hide pb
  have A1' := TW.hide (A1.out.below hb3)
  have A2' := TW.hide (A2.out.below hb3)
  refine HK.out _ _ H3.out (fun _ => trivial) ?_
  clear HK KX hb3 H2 pa pb A1 A2
  obtain ⟨sv, hsv⟩ : ∃ sv, smV E1 E2 p q s t s' t' = sv := ⟨_, rfl⟩
  have SM2 := SM.out a c b d a' c' b' d' w3 A1'.out A2'.out A3.out A4.out
  rw [hsv] at SM2
  have HSM := TW.hide SM2
  clear SM2
  refine RG.wpL_step (i := 5) (by kernel_rfl) (by rfl) (by rfl) (fun KX hK => ?_)
  have HK := TW.hide hK
  clear hK
  go_simp
  refine (HSM.out).mono ?_
  rintro e w4 ⟨rfl, hb4⟩
  have H4 : Hid (Below w1.heap.size w1 w4) := H3.out.trans (hb4.mono H3.out.size)
  refine HK.out _ _ H4.out (fun _ => trivial) ?_
  clear HK KX hb4 H3 A1' A2' A3 A4
  refine RG.wpL_take (fuel := 2) (a' := ?A2) [6, 7, 8] (by kernel_rfl) (by kernel_rfl) (fun _ _ _ _ _ h => h) H4.out (fun _ => trivial) ?r2 ?_
  case r2 =>
    refine RG.RunsIf.weak (v := ?_) (by rfl) (by rfl) (fun Z hT => ?_) ?_
    rotate_left
    · go_simp
      rfl
    simp only [Act.put, List.setIfInBounds_toArray, List.set_cons_zero, List.set_cons_succ, List.getElem_toArray, List.getElem_cons_zero, List.getElem_cons_succ]
    refine RG.RunsIf.weak (v := ?_) (by rfl) (by rfl) (fun Z hT => ?_) ?_
    rotate_left
    · go_simp
      rfl
    simp only [Act.put, List.setIfInBounds_toArray, List.set_cons_zero, List.set_cons_succ, List.getElem_toArray, List.getElem_cons_zero, List.getElem_cons_succ]
    refine RG.RunsIf.weak (v := ?_) (by rfl) (by rfl) (fun Z hT => ?_) ?_
    rotate_left
    · go_simp
      rfl
    simp only [Act.put, List.setIfInBounds_toArray, List.set_cons_zero, List.set_cons_succ, List.getElem_toArray, List.getElem_cons_zero, List.getElem_cons_succ]
    exact RG.RunsIf.nil
  refine RG.wpL_step (i := 9) (by kernel_rfl) (by rfl) (by rfl) (fun KX hK => ?_)
  have HK := TW.hide hK
  clear hK
  go_simp
  refine HK.out _ _ H4.out (fun _ => trivial) ?_
  clear HK KX
  refine RG.wpL_step (i := 10) (by kernel_rfl) (by rfl) (by rfl) (fun KX hK => ?_)
  have HK := TW.hide hK
  clear hK
  go_simp
  refine HK.out _ _ H4.out (fun _ => trivial) ?_
  clear HK KX
  refine RG.wpL_done (by kernel_rfl) ?_ _
  refine NoPanic.normal ?_
  refine HK0.out _ _ ?_
  clear HK0 KK
  have fin : Below B w w4 := NB.out.trans (H4.out.mono hB1)
  have FIN := TW.hide fin
  clear fin
  by_cases e1 : E1 = 0
  · by_cases e2 : E2 = 0
    · have hs2 : sv = (@decide (p = q ∧ tr s = tr s' ∧ tr t = tr t') (Pm.decA p q (tr s) (tr s') (tr t) (tr t')), 0) := by rw [← hsv]; unfold smV; rw [if_pos e1, if_pos e2]
      obtain ⟨D, hD⟩ : ∃ D, @decide (p = q ∧ tr s = tr s' ∧ tr t = tr t') (Pm.decA p q (tr s) (tr s') (tr t) (tr t')) = D := ⟨_, rfl⟩
      rw [hD] at hs2
      subst hs2
      have hkey := fun hx => KEY.out e1 e2 hx
      rw [hD] at hkey
      have HKEY := TW.hide hkey
      subst e1 e2
      have c6 : w4.cell? ⟨B, 6, none⟩ = some (.int .u32 p.xof) := by
        have h := blk_keep' N0.out H4.out
        simp [World.cell?, h, pcP, pc]
      have d6 : w4.cell? ⟨B + 1, 6, none⟩ = some (.int .u32 q.xof) := by
        have h := blk_keep' N1.out H4.out
        simp [World.cell?, h, pcP, pc]
      clear hkey hsv KEY hD SM HSM
      by_cases hx : (p.xof == 0) = (q.xof == 0)
      · have hxk := HKEY.out hx
        have hx2 : ((p.xof == 0) == (q.xof == 0)) = true := by rw [hx]; simp
        have HX := TW.hide hx
        clear hx
        refine wp_seq_k fun KK hK => ?_
        have HK := TW.hide hK
        clear hK
        go_wp2
        refine HK.out _ _ ?_
        clear HK KK c6 d6 hx2 HKEY
        have EE1 := EN1.out
        have EE2 := EN2.out
        simp only [eS, if_true] at EE1 EE2
        have HXK := TW.hide hxk
        clear EN1 EN2 hxk
        have EN1 := TW.hide EE1
        have EN2 := TW.hide EE2
        clear EE1 EE2
        refine wp_seq_k fun KK hK => ?_
        have HK := TW.hide hK
        clear hK
        have nn := TW.hide (blk_keep' N0.out H4.out)
        go_wp2_with (refine wpList_load_row (by rfl) 26 _ (by rfl) (B) (by rfl) 26 (pcP p (.slice sa sl sc) (.slice ta tl tc)) (0, 0) _ nn.out Try.underlying26 rfl I1.out ?_)
        refine (C1.out _ (hB ▸ (NB.out.trans (H4.out.mono hB1)))).mono ?_
        rintro e w5 ⟨a, c, b, d, rfl, pa, pb, hbx⟩
        have H5 : Hid (Below w1.heap.size w1 w5) := H4.out.trans (hbx.mono H4.out.size)
        have A1 := TW.hide pa
        have A2 := TW.hide pb
        clear hbx pa pb nn H4
        go_wp2_with fail
        refine (EN1.out _ _ _ _ _ A1.out A2.out).mono ?_
        rintro e w6 ⟨x5, cx5, rfl, px5, hc5, _, hby⟩
        have H6 : Hid (Below w1.heap.size w1 w6) := H5.out.trans (hby.mono H5.out.size)
        have X5 := TW.hide px5
        clear hby px5 A1 A2 H5
        go_wp2
        refine HK.out _ _ ?_
        clear HK KK
        refine wp_seq_k fun KK hK => ?_
        have HK := TW.hide hK
        clear hK
        have nn := TW.hide (blk_keep' N1.out H6.out)
        go_wp2_with (refine wpList_load_row (by rfl) 26 _ (by rfl) (B + 1) (by rfl) 26 (pcP q (.slice sa' sl' sc') (.slice ta' tl' tc')) (0, 0) _ nn.out Try.underlying26 rfl I2.out ?_)
        refine (C2.out _ (hB ▸ (NB.out.trans (H6.out.mono hB1)))).mono ?_
        rintro e w7 ⟨a, c, b, d, rfl, pa, pb, hbx⟩
        have H7 : Hid (Below w1.heap.size w1 w7) := H6.out.trans (hbx.mono H6.out.size)
        have A1 := TW.hide pa
        have A2 := TW.hide pb
        have X5b := TW.hide (X5.out.below hbx)
        clear X5
        clear hbx pa pb nn H6
        go_wp2_with fail
        refine (EN2.out _ _ _ _ _ A1.out A2.out).mono ?_
        rintro e w8 ⟨x7, cx7, rfl, px7, hc7, _, hby⟩
        have H8 : Hid (Below w1.heap.size w1 w8) := H7.out.trans (hby.mono H7.out.size)
        have X7 := TW.hide px7
        have X5 := TW.hide (X5b.out.below hby)
        clear X5b
        clear hby px7 A1 A2 H7
        go_wp2
        refine HK.out _ _ ?_
        clear HK KK
        have hm1 : L1.length ≤ maxLen := by have := X5.out.len; unfold maxLen; omega
        have hm2 : L2.length ≤ maxLen := by have := X7.out.len; unfold maxLen; omega
        have SF := TW.hide (SME.out x5 x7 cx5 cx7 w8 X5.out.row X7.out.row hm1 hm2)
        clear hm1 hm2 SME X5 X7
        generalize L1.length = m1 at *
        generalize L2.length = m2 at *
        go_wp2_with fail
        refine SF.out.mono ?_
        rintro e w9 ⟨rfl, qz, rfl⟩
        have FF : Hid (Below B w (w8.drewN qz)) := NB.out.trans ((below_drewN H8.out qz).mono hB1)
        rw [HXK.out]
        clear SF H8
        go_wp2
        go_ret
        exact ⟨by simp, FF.out⟩
      · have hx2 : ((p.xof == 0) == (q.xof == 0)) = false := by simpa using hx
        clear hx HKEY
        go_wp2
        go_ret
        exact ⟨rfl, FIN.out⟩
    · have hs2 : sv = (false, E2) := by rw [← hsv]; unfold smV; rw [if_pos e1, if_neg e2]
      subst hs2
      have d2 : (E2 != 0) = true := by simp [e2]
      clear e2 hsv
      go_wp2
      go_ret
      exact ⟨rfl, FIN.out⟩
  · have hs2 : sv = (false, E1) := by rw [← hsv]; unfold smV; rw [if_neg e1]
    subst hs2
    have d1 : (E1 != 0) = true := by simp [e1]
    clear e1 hsv
    go_wp2
    go_ret
    exact ⟨rfl, FIN.out⟩
theorem unlikeLaw (kd : Int) (p : Pm) (sa ta : Option Addr) (sc tc : Nat) (s t : List Int) (q : Pm) (sa' ta' : Option Addr) (sc' tc' : Nat) (s' t' : List Int) (w : World) (_ : (Lit.int .i64 kd).wf = true) (hp : p.Ok) (h1 : Pb w sa sc s) (h2 : Pb w ta tc t) (hq : q.Ok) (h3 : Pb w sa' sc' s') (h4 : Pb w ta' tc' t') :
    Calls Try.prog 7 #[.int .i64 kd, .agg (pcP p (.slice sa s.length sc) (.slice ta t.length tc)), .agg (pcP q (.slice sa' s'.length sc') (.slice ta' t'.length tc'))] w fun e w' => e = .returned (.bool true) ∧ Below w.heap.size w w' :=
  unlike kd p sa ta sc tc s t q sa' ta' sc' tc' s' t' w hp hq h1 h2 h3 h4
end LW
end Go.Proofs.Ytpcahieaakjaaaa
