/-
  What the calls of ParamBack give at parameters that may be; its walk: there and back, by the block and by the line.
-/
import Derived.Test.YteakoajkmcbilabDoorRdB
import Derived.Test.YteakoajkmcbilabDoorShow
import Derived.Test.YteakoajkmcbilabDoorEncA
import Derived.Test.YteakoajkmcbilabDoorAlike
import Derived.Test.YteakoajkmcbilabDoorChecksWalk
namespace Go.Proofs.YteakoajkmcbilabDoor
open Go.RowKit Go.Shelf
set_option linter.unusedVariables false
set_option linter.unusedSimpArgs false
namespace LW
open Words Txt
set_option maxHeartbeats 2000000 in
theorem ckG_len {m m4 : Int} {x : Bool} {s6 s7 : Nat} {d k f dp off xof nd inn : Int} {sl tl sl' tl' : Nat} (h : ckG m m4 x s6 s7 d k f dp off xof nd inn sl tl = 0) (h1 : (sl' : Int) ≤ m4) (h2 : (tl' : Int) ≤ m4) :
    ckG m m4 x s6 s7 d k f dp off xof nd inn sl' tl' = 0 := by
  unfold ckG at h
  repeat' split at h
  all_goals first | (exfalso; omega) | skip
  rename_i c1 c2 c3 c4 c5 c6 c7 c8 c9 c10 c11
  unfold ckG
  rw [if_neg c1, if_neg c2, if_neg c3, if_neg c4, if_neg c5, if_neg c6, if_neg c7, if_neg c8, if_neg c9, if_neg (by omega), if_neg (by omega)]
theorem ck_len {kd : Int} {p : Pm} {sl tl sl' tl' : Nat} (h : p.ck kd sl tl = 0) (h1 : sl' ≤ (mo kd / 4).toNat) (h2 : tl' ≤ (mo kd / 4).toNat) : p.ck kd sl' tl' = 0 := by
  unfold Pm.ck at *
  rcases ck_kind h with rfl | rfl
  · have e : (mo 1 / 4).toNat = 16 := rfl
    simp only [LW.ck, if_true] at h ⊢
    exact ckG_len h (by omega) (by omega)
  · have e : (mo 2 / 4).toNat = 8 := rfl
    simp only [LW.ck, if_true, show ((2 : Int) = 1) = False by simp, if_false] at h ⊢
    exact ckG_len h (by omega) (by omega)
theorem cl_of (kd : Int) (hk : kd = 1 ∨ kd = 2) (n : Nat) (h : n = (mo kd).toNat) : cl kd n = 0 := by
  subst h
  rcases hk with rfl | rfl <;> decide
theorem copied_Pa (p : Pm) (sa ta : Option Addr) (sc tc : Nat) (s t : List Int) (W : World) (h1 : Pb W sa sc s) (h2 : Pb W ta tc t) :
    Calls Tryd.prog 7 #[.agg (pcP p (.slice sa s.length sc) (.slice ta t.length tc))] W fun e w' => ∃ a c b d, e = .returned (.agg (pcP p (.slice a s.length c) (.slice b t.length d))) ∧ Pa w' a c s ∧ Pa w' b d t ∧ Below W.heap.size W w' := by
  refine (copiedP p sa ta sc tc s t W h1.row h2.row h1.nil h2.nil h1.len h2.len).mono ?_
  rintro e w' ⟨x, y, rfl, ox, oy, hb'⟩
  obtain ⟨a, c, rfl, pa⟩ := Pa.own ox h1.len h1.byt
  obtain ⟨b, d, rfl, pb⟩ := Pa.own oy h2.len h2.byt
  exact ⟨a, c, b, d, rfl, pa, pb, hb'⟩

theorem tr_tr (s : List Int) : tr (tr s) = tr s := by
  refine (tr_pad s (tr s) (fun i => ?_) (tr_le s)).symm
  by_cases h : i < (tr s).length
  · have e : (tr s).getD i 0 = s.getD i 0 := by
      have h2 : i < tn s s.length := by rw [← tr_length]; exact h
      show (s.take (tn s s.length)).getD i 0 = s.getD i 0
      rw [List.getD_eq_getElem?_getD, List.getElem?_take, if_pos h2, List.getD_eq_getElem?_getD]
    exact e.symm
  · rw [getD_past (tr s) i (by omega)]
    by_cases h2 : i < s.length
    · exact tr_zero s i (by omega) h2
    · exact getD_past s i (by omega)
theorem ck_of_tr {kd : Int} {p : Pm} {s t : List Int} (h : p.ck kd s.length t.length = 0) : p.ck kd (tr s).length (tr t).length = 0 := by
  have h1 := ck_salts h
  have h2 := tr_le s
  have h3 := tr_le t
  exact ck_len h (by omega) (by omega)
theorem short_tr {kd : Int} {p : Pm} {s t : List Int} (h : p.ck kd s.length t.length = 0) : s.length ≤ 16 ∧ t.length ≤ 16 ∧ (tr s).length ≤ 16 ∧ (tr t).length ≤ 16 := by
  have h1 := ck_salts h
  have h2 := tr_le s
  have h3 := tr_le t
  rcases kind_nums kd (ck_kind h) with ⟨_, _, e, _⟩ | ⟨_, _, e, _⟩ <;> (rw [e] at h1; exact ⟨by omega, by omega, by omega, by omega⟩)
/-- Encode. -/
theorem encB (kd : Int) (p : Pm) (hp : p.Ok) (sa ta : Option Addr) (sc tc : Nat) (s t : List Int) (w : World) (h1 : Pb w sa sc s) (h2 : Pb w ta tc t) (hck : p.ck kd s.length t.length = 0) :
    Calls Tryd.prog 14 #[.int .i64 kd, .agg (pcP p (.slice sa s.length sc) (.slice ta t.length tc))] w fun e w' => ∃ a c, e = .returned (.tuple #[.slice a (enL kd p s t).length c, .int .i64 0]) ∧ Pa w' a c (enL kd p s t) ∧ c ≤ 64 ∧ Below w.heap.size w w' := by
  refine (encP kd p hp sa ta sc tc s t w h1 h2).mono ?_
  rintro e w' ⟨a, c, he, hpa, hc, _, hb⟩
  rw [hck] at he hpa
  exact ⟨a, c, he, hpa, hc, hb⟩
/-- Decode of what Encode tells. -/
theorem decB (kd : Int) (p : Pm) (hp : p.Ok) (s t : List Int) (hs : Byt s) (ht : Byt t) (a : Option Addr) (c : Nat) (w : World) (h : Pb w a c (enL kd p s t)) (hc : c ≤ 64) (hck : p.ck kd s.length t.length = 0) :
    Calls Tryd.prog 15 #[.int .i64 kd, .slice a (enL kd p s t).length c, .bool (p.xof != 0)] w fun e w' => ∃ a1 c1 a2 c2, e = .returned (.tuple #[.agg (pcP p (.slice a1 (tr s).length c1) (.slice a2 (tr t).length c2)), .int .i64 0]) ∧ Pa w' a1 c1 (tr s) ∧ Pa w' a2 c2 (tr t) ∧ Below w.heap.size w w' := by
  have hk := ck_kind hck
  have hd := dec_enc hp hck
  obtain ⟨e1, e2, e3⟩ := sal_enc hck
  have hl := enL_length kd p s t hck
  have hE : dE kd (p.xof != 0) (enL kd p s t) = 0 := by
    unfold dE
    rw [hd, if_pos (by rw [hl]; exact cl_of kd hk _ rfl), if_pos e3, if_neg]
    · exact ck_len hck (Nat.le_refl _) (Nat.le_refl _)
    · by_cases hx : p.xof = 0 <;> simp [hx]
  have hq := short_tr hck
  refine (decP kd (p.xof != 0) a c (enL kd p s t) w h (by unfold maxLen; omega)).mono ?_
  rintro e w' ⟨u, v, rfl, ou, ov, hb⟩
  rw [hE] at ou ov ⊢
  simp only [nS, nP, if_true, e1, e2, hd] at ou ov ⊢
  obtain ⟨a1, c1, rfl, q1⟩ := Pa.own ou (by omega) (Byt.tr hs)
  obtain ⟨a2, c2, rfl, q2⟩ := Pa.own ov (by omega) (Byt.tr ht)
  exact ⟨a1, c1, a2, c2, rfl, q1, q2, hb⟩
/-- Same of these and those. -/
theorem sameB (kd : Int) (p : Pm) (hp : p.Ok) (s t : List Int) (sa ta sa' ta' : Option Addr) (sc tc sc' tc' : Nat) (w : World) (h1 : Pa w sa sc s) (h2 : Pa w ta tc t) (h3 : Pa w sa' sc' (tr s)) (h4 : Pa w ta' tc' (tr t)) (hck : p.ck kd s.length t.length = 0) :
    Calls Tryd.prog 16 #[.int .i64 kd, .agg (pcP p (.slice sa s.length sc) (.slice ta t.length tc)), .agg (pcP p (.slice sa' (tr s).length sc') (.slice ta' (tr t).length tc'))] w fun e w' => e = .returned (.tuple #[.bool true, .int .i64 0]) ∧ Below w.heap.size w w' := by
  refine (sameP kd p p hp hp sa ta sa' ta' sc tc sc' tc' s t (tr s) (tr t) w h1 h2 h3 h4).mono ?_
  rintro e w' ⟨rfl, hb⟩
  refine ⟨?_, hb⟩
  rw [hck, ck_of_tr hck]
  simp [smV, tr_tr]
/-- Show. -/
theorem showB (kd : Int) (p : Pm) (hp : p.Ok) (sa ta : Option Addr) (sc tc : Nat) (s t : List Int) (w : World) (h1 : Pb w sa sc s) (h2 : Pb w ta tc t) (hck : p.ck kd s.length t.length = 0) (htab : ∀ W, Below w.heap.size w W → Tab10 W) :
    Calls Tryd.prog 6 #[.int .i64 kd, .agg (pcP p (.slice sa s.length sc) (.slice ta t.length tc))] w fun e w' => e = .returned (.tuple #[.string (strOfNums (lnL kd p (tr s) (tr t) 11)), .int .i64 0]) ∧ Below w.heap.size w w' := by
  have hq := short_tr hck
  refine showOk kd (ck_kind hck) p hp (may_of_ck hck) sa ta sc tc s t (tr s) (tr t) w (fun W hb => ?_) (by omega) (by omega) (Byt.tr h1.byt) (Byt.tr h2.byt) htab
  refine (normalP kd p hp sa ta sc tc s t W (h1.below hb) (h2.below hb)).mono ?_
  rintro e w' ⟨x, y, rfl, ox, oy, hb'⟩
  simp only [hck, nP, nS, if_true] at ox oy ⊢
  obtain ⟨a1, c1, rfl, q1⟩ := Pa.own ox (by omega) (Byt.tr h1.byt)
  obtain ⟨a2, c2, rfl, q2⟩ := Pa.own oy (by omega) (Byt.tr h2.byt)
  exact ⟨a1, c1, a2, c2, rfl, q1.toPb, q2.toPb, hb'⟩
/-- Read of what Show tells. -/
theorem readB (kd : Int) (p : Pm) (hp : p.Ok) (s t : List Int) (hs : Byt s) (ht : Byt t) (m : Int) (w : World) (hck : p.ck kd s.length t.length = 0)
    (hmx : ∀ W, Below w.heap.size w W → W.cell? ⟨1, 0, none⟩ = some (.int .i64 m)) (htab : ∀ W, Below w.heap.size w W → Tab10 W) :
    Calls Tryd.prog 9 #[.string (strOfNums (lnL kd p (tr s) (tr t) 11))] w fun e w' => ∃ b1 d1 b2 d2, e = .returned (.tuple #[.int .i64 kd, .agg (pcP p (.slice b1 (tr s).length d1) (.slice b2 (tr t).length d2)), .int .i64 0, .int .i64 0]) ∧ Pb w' b1 d1 (tr s) ∧ Pb w' b2 d2 (tr t) ∧ Below w.heap.size w w' := by
  have hq := short_tr hck
  have h := readOk kd (ck_kind hck) p hp (may_of_ck hck) (tr s) (tr t) (Byt.tr hs) (Byt.tr ht) hq.2.2.1 hq.2.2.2 (ck_of_tr hck) m w hmx htab
  rw [tr_tr, tr_tr] at h
  exact h
/-- The law's alike. -/
theorem alikeB (p : Pm) (S T : List Int) (sa ta sa' ta' : Option Addr) (sc tc sc' tc' : Nat) (w : World) (h1 : Pb w sa sc S) (h2 : Pb w ta tc T) (h3 : Pb w sa' sc' S) (h4 : Pb w ta' tc' T) :
    Calls Tryd.prog 11 #[.agg (pcP p (.slice sa S.length sc) (.slice ta T.length tc)), .agg (pcP p (.slice sa' S.length sc') (.slice ta' T.length tc'))] w fun e w' => e = .returned (.bool true) ∧ Below w.heap.size w w' :=
  alikeE p.d p.k p.f p.dp p.lf p.off p.xof p.nd p.inn sa ta sa' ta' sc tc sc' tc' S T w h1.row h2.row h3.row h4.row (by have := h1.len; unfold maxLen; omega) (by have := h2.len; unfold maxLen; omega)
end LW
end Go.Proofs.YteakoajkmcbilabDoor
namespace Go.Proofs.YteakoajkmcbilabDoor
open Go.RowKit Go.Shelf
set_option linter.unusedVariables false
set_option linter.unusedSimpArgs false
namespace LW
open Words Txt
set_option maxRecDepth 100000 in
set_option maxHeartbeats 4000000 in
theorem backs (kd : Int) (p : Pm) (sa ta : Option Addr) (sc tc : Nat) (s t : List Int) (m : Int) (w : World) (hp : p.Ok) (h1 : Pb w sa sc s) (h2 : Pb w ta tc t)
    (hmx : ∀ W, Below w.heap.size w W → W.cell? ⟨1, 0, none⟩ = some (.int .i64 m)) (htab : ∀ W, Below w.heap.size w W → Tab10 W) :
    Calls Tryd.prog 5 #[.int .i64 kd, .agg (pcP p (.slice sa s.length sc) (.slice ta t.length tc))] w fun e w' => e = .returned (.bool true) ∧ Below w.heap.size w w' := by
  have HAL := TW.hide (fun W => alive W)
  have HCO := TW.hide (fun W (hb : Below w.heap.size w W) => copied_Pa p sa ta sc tc s t W (h1.below hb) (h2.below hb))
  have HCK := TW.hide (fun a1 a2 c1 c2 W => checkP kd p hp a1 a2 s.length c1 t.length c2 W)
  have HXF := TW.hide (show ∀ S T : Value, (pcP p S T)[6]? = some (.int .u32 p.xof) from fun S T => rfl)
  have n0 := heap_new w (.cells (pcP p (.slice sa s.length sc) (.slice ta t.length tc)) 26)
  have b0 := (Below.refl w.heap.size w).alloc (Nat.le_refl _) (.cells (pcP p (.slice sa s.length sc) (.slice ta t.length tc)) 26)
  go_enter Tryd.func5, Tryd.ntmps5
  refine wp_seq_k fun KK hK => ?_
  have HK := TW.hide hK
  clear hK
  go_wp2
  refine HK.out _ _ ?_
  clear HK KK
  change Code.wp _ _ _ _ (w.alloc (.cells (pcP p (.slice sa s.length sc) (.slice ta t.length tc)) 26))
  generalize w.alloc (.cells (pcP p (.slice sa s.length sc) (.slice ta t.length tc)) 26) = W at n0 b0 ⊢
  generalize hB : w.heap.size = B at *
  have N0 := TW.hide n0
  have B0 := TW.hide b0
  clear n0 b0
  refine wp_seq_k fun KK hK => ?_
  have HK := TW.hide hK
  clear hK
  go_wp2_with fail
  refine (HAL.out _).mono ?_
  rintro e w1 ⟨rfl, hb⟩
  have N1 := TW.hide (blk_keep N0.out hb)
  have B1 : Hid (Below B w w1) := below_row B0.out hb (by have := blk_lt N0.out; omega)
  clear hb N0 B0 HAL
  go_wp2_with fail
  refine HK.out _ _ ?_
  clear HK KK
  refine wp_seq_k fun KK hK => ?_
  have HK := TW.hide hK
  clear hK
  go_wp2_with (refine wpList_val (.agg (pcP p (.slice sa s.length sc) (.slice ta t.length tc))) (by rfl) (exec_load_row' 26 _ (by rfl) (B) (by rfl) 26 (pcP p (.slice sa s.length sc) (.slice ta t.length tc)) (0, 0) _ N1.out Tryd.underlying26 rfl (info31 _ _ _)) ?_)
  refine (HCO.out _ B1.out).mono ?_
  rintro e w2 ⟨a1, c1, a2, c2, rfl, pa, pb, hb⟩
  have N2 := TW.hide (blk_keep N1.out hb)
  have B2 : Hid (Below B w w2) := below_row B1.out hb (by have := blk_lt N1.out; omega)
  clear hb N1 B1 pa pb
  go_wp2_with fail
  refine (HCK.out _ _ _ _ _).mono ?_
  rintro e w3 ⟨rfl, hb⟩
  have N3 := TW.hide (blk_keep N2.out hb)
  have B3 : Hid (Below B w w3) := below_row B2.out hb (by have := blk_lt N2.out; omega)
  clear hb N2 B2 HCK
  by_cases hck : p.ck kd s.length t.length = 0
  rotate_left
  · generalize p.ck kd s.length t.length = E at *
    have hne : (E != 0) = true := bne0 hck
    go_wp2_with fail
    go_ret
    exact ⟨rfl, B3.out⟩
  have HEN := TW.hide (fun a1 a2 c1 c2 W g1 g2 => encB kd p hp a1 a2 c1 c2 s t W g1 g2 hck)
  have HDE := TW.hide (fun a c W g hc => decB kd p hp s t h1.byt h2.byt a c W g hc hck)
  have HSA := TW.hide (fun a1 a2 a3 a4 c1 c2 c3 c4 W g1 g2 g3 g4 => sameB kd p hp s t a1 a2 a3 a4 c1 c2 c3 c4 W g1 g2 g3 g4 hck)
  have HSH := TW.hide (fun a1 a2 c1 c2 W g1 g2 htb => showB kd p hp a1 a2 c1 c2 s t W g1 g2 hck htb)
  have HRD := TW.hide (fun W hmx htb => readB kd p hp s t h1.byt h2.byt m W hck hmx htb)
  have HAK := TW.hide (fun a1 a2 a3 a4 c1 c2 c3 c4 W g1 g2 g3 g4 => alikeB p (tr s) (tr t) a1 a2 a3 a4 c1 c2 c3 c4 W g1 g2 g3 g4)
  have HCQ := TW.hide (fun a1 a2 c1 c2 W g1 g2 => copied_Pa p a1 a2 c1 c2 (tr s) (tr t) W g1 g2)
  have HMX := TW.hide hmx
  have HTB := TW.hide htab
  rw [hck]
  clear hck hmx htab h1 h2 hp
  have h00 : ((0 : Int) != 0) = false := rfl
  have hkk : (kd != kd) = false := by simp
  generalize strOfNums (lnL kd p (tr s) (tr t) 11) = line at *
  generalize tr s = S at *
  generalize tr t = T at *
  generalize enL kd p s t = blk at *
  go_wp2_with fail
  refine HK.out _ _ ?_
  clear HK KK
  refine wp_seq_k fun KK hK => ?_
  have HK := TW.hide hK
  clear hK
  go_wp2_with (refine wpList_val (.agg (pcP p (.slice sa s.length sc) (.slice ta t.length tc))) (by rfl) (exec_load_row' 26 _ (by rfl) (B) (by rfl) 26 (pcP p (.slice sa s.length sc) (.slice ta t.length tc)) (0, 0) _ N3.out Tryd.underlying26 rfl (info31 _ _ _)) ?_)
  refine (HCO.out _ B3.out).mono ?_
  rintro e w4 ⟨a1, c1, a2, c2, rfl, pa, pb, hb⟩
  have N4 := TW.hide (blk_keep N3.out hb)
  have B4 : Hid (Below B w w4) := below_row B3.out hb (by have := blk_lt N3.out; omega)
  have PA := TW.hide pa.toPb
  have PB := TW.hide pb.toPb
  clear hb N3 B3 pa pb
  go_wp2_with fail
  refine (HEN.out _ _ _ _ _ PA.out PB.out).mono ?_
  rintro e w5 ⟨a, c, rfl, pe, hc, hb⟩
  have N5 := TW.hide (blk_keep N4.out hb)
  have B5 : Hid (Below B w w5) := below_row B4.out hb (by have := blk_lt N4.out; omega)
  have PE := TW.hide pe.toPb
  have HC := TW.hide hc
  clear hb N4 B4 pe hc PA PB HEN
  go_wp2_with fail
  refine HK.out _ _ ?_
  clear HK KK
  have c6 : w5.cell? ⟨B, 6, none⟩ = some (.int .u32 p.xof) := blk_cell N5.out (HXF.out _ _)
  refine wp_seq_k fun KK hK => ?_
  have HK := TW.hide hK
  clear hK
  go_wp2_with fail
  refine (HDE.out _ _ _ PE.out HC.out).mono ?_
  rintro e w6 ⟨u1, d1, u2, d2, rfl, qa, qb, hb⟩
  have N6 := TW.hide (blk_keep N5.out hb)
  have B6 : Hid (Below B w w6) := below_row B5.out hb (by have := blk_lt N5.out; omega)
  clear hb N5 B5 c6 PE HC HDE HXF
  go_wp2_with (first | (refine wpList_store_row (by rfl) 26 _ _ (by rfl) (w6.heap.size) (pcP p (.slice u1 S.length d1) (.slice u2 T.length d2)) (by rfl) (by rfl) 26 _ (heap_new w6 _) (info31 _ _ _) (pc_size Pm.zero _ _ _ _ _) (pc_one _ _ _ _ _ _ _) ?_))
  have nq := setRow_heap _ _ _ (pcP p (.slice u1 S.length d1) (.slice u2 T.length d2)) _ _ (heap_new w6 (.cells #[.int .i64 0, .int .i64 0, .int .i64 0, .int .i64 0, .int .u32 0, .int .u64 0, .int .u32 0, .int .i64 0, .int .i64 0, .slice none 0 0, .slice none 0 0] 26))
  have bx := below_setRow (cs := (pcP p (.slice u1 S.length d1) (.slice u2 T.length d2))) ((Below.refl w6.heap.size w6).alloc (Nat.le_refl _) (.cells #[.int .i64 0, .int .i64 0, .int .i64 0, .int .i64 0, .int .u32 0, .int .u64 0, .int .u32 0, .int .i64 0, .int .i64 0, .slice none 0 0, .slice none 0 0] 26)) (g := w6.heap.size) (Nat.le_refl _)
  generalize (w6.alloc (.cells #[.int .i64 0, .int .i64 0, .int .i64 0, .int .i64 0, .int .u32 0, .int .u64 0, .int .u32 0, .int .i64 0, .int .i64 0, .slice none 0 0, .slice none 0 0] 26)).setRow w6.heap.size (pcP p (.slice u1 S.length d1) (.slice u2 T.length d2)) = X at nq bx ⊢
  have NQ := TW.hide nq
  have N7 := TW.hide (blk_keep N6.out bx)
  have B7 : Hid (Below B w X) := below_row B6.out bx (by have := blk_lt N6.out; omega)
  have QA := TW.hide (qa.below bx)
  have QB := TW.hide (qb.below bx)
  have hBQ := blk_lt N6.out
  generalize hQ : w6.heap.size = Q at *
  clear nq bx qa qb N6 B6
  refine HK.out _ _ ?_
  clear HK KK
  refine wp_seq_k fun KK hK => ?_
  have HK := TW.hide hK
  clear hK
  go_wp2_with fail
  refine HK.out _ _ ?_
  clear HK KK
  have BX := TW.hide (Below.refl X.heap.size X)
  refine wp_seq_k fun KK hK => ?_
  have HKK := TW.hide hK
  clear hK
  refine wp_region_noPanic ?_
  refine RG.wp_region_L (fun Z => True) (fun Z => Below X.heap.size X Z) [] (by kernel_rfl) ?_
  refine RG.wpL_any fun Ya hY => ?_
  have HTa : Hid (Below X.heap.size X Ya) := by rw [hY]; exact below_drewN BX.out 1
  clear hY
  refine RG.wpL_take (fuel := 8) (a' := ?Aa) [0, 1, 3] (by kernel_rfl) (by kernel_rfl) (fun _ _ _ _ _ h => h) HTa.out (fun _ => trivial) ?ra ?_
  case ra =>
    refine RG.RunsIf.weak (v := ?_) (by rfl) (by rfl) (fun Z hT => ?_) ?_
    rotate_left
    · go_simp
      rfl
    simp only [Act.put, List.setIfInBounds_toArray, List.set_cons_zero, List.set_cons_succ, List.getElem_toArray, List.getElem_cons_zero, List.getElem_cons_succ]
    refine RG.RunsIf.weak (v := .agg (pcP p (.slice sa s.length sc) (.slice ta t.length tc))) (by rfl) (by rfl) (fun Z hT => exec_load_row' 26 _ (by rfl) (B) (by rfl) 26 (pcP p (.slice sa s.length sc) (.slice ta t.length tc)) (0, 0) _ (blk_keep N7.out hT) Tryd.underlying26 rfl (info31 _ _ _)) ?_
    simp only [Act.put, List.setIfInBounds_toArray, List.set_cons_zero, List.set_cons_succ, List.getElem_toArray, List.getElem_cons_zero, List.getElem_cons_succ]
    refine RG.RunsIf.weak (v := .agg (pcP p (.slice u1 S.length d1) (.slice u2 T.length d2))) (by rfl) (by rfl) (fun Z hT => exec_load_row' 26 _ (by rfl) (Q) (by rfl) 26 (pcP p (.slice u1 S.length d1) (.slice u2 T.length d2)) (0, 0) _ (blk_keep NQ.out hT) Tryd.underlying26 rfl (info31 _ _ _)) ?_
    simp only [Act.put, List.setIfInBounds_toArray, List.set_cons_zero, List.set_cons_succ, List.getElem_toArray, List.getElem_cons_zero, List.getElem_cons_succ]
    exact RG.RunsIf.nil
  refine RG.wpL_step (i := 2) (by kernel_rfl) (by rfl) (by rfl) (fun KX hK => ?_)
  have HK := TW.hide hK
  clear hK
  go_simp
  refine (HCO.out _ (below_row B7.out HTa.out (by have := blk_lt N7.out; omega))).mono ?_
  rintro e y1 ⟨x1, k1, x2, k2, rfl, g1, g2, hb⟩
  have HT1 : Hid (Below X.heap.size X y1) := below_row HTa.out hb HTa.out.size
  refine HK.out _ _ HT1.out (fun _ => trivial) ?_
  clear HK KX
  try simp only [Act.put, List.setIfInBounds_toArray, List.set_cons_zero, List.set_cons_succ, List.getElem_toArray, List.getElem_cons_zero, List.getElem_cons_succ]
  clear hb
  refine RG.wpL_step (i := 4) (by kernel_rfl) (by rfl) (by rfl) (fun KX hK => ?_)
  have HK := TW.hide hK
  clear hK
  go_simp
  refine (HCQ.out _ _ _ _ _ (QA.out.toPb.below HT1.out) (QB.out.toPb.below HT1.out)).mono ?_
  rintro e y2 ⟨x3, k3, x4, k4, rfl, g3, g4, hb⟩
  have HT2 : Hid (Below X.heap.size X y2) := below_row HT1.out hb HT1.out.size
  refine HK.out _ _ HT2.out (fun _ => trivial) ?_
  clear HK KX
  try simp only [Act.put, List.setIfInBounds_toArray, List.set_cons_zero, List.set_cons_succ, List.getElem_toArray, List.getElem_cons_zero, List.getElem_cons_succ]
  have G1 := TW.hide (g1.below hb)
  have G2 := TW.hide (g2.below hb)
  have G3 := TW.hide g3
  have G4 := TW.hide g4
  clear hb g1 g2 g3 g4
  refine RG.wpL_step (i := 5) (by kernel_rfl) (by rfl) (by rfl) (fun KX hK => ?_)
  have HK := TW.hide hK
  clear hK
  go_simp
  refine (HSA.out _ _ _ _ _ _ _ _ _ G1.out G2.out G3.out G4.out).mono ?_
  rintro e y3 ⟨rfl, hb⟩
  have HT3 : Hid (Below X.heap.size X y3) := below_row HT2.out hb HT2.out.size
  refine HK.out _ _ HT3.out (fun _ => trivial) ?_
  clear HK KX
  try simp only [Act.put, List.setIfInBounds_toArray, List.set_cons_zero, List.set_cons_succ, List.getElem_toArray, List.getElem_cons_zero, List.getElem_cons_succ]
  clear hb G1 G2 G3 G4
  refine RG.wpL_take (fuel := 0) (a' := ?Ab) [6, 7, 8, 9, 10] (by kernel_rfl) (by kernel_rfl) (fun _ _ _ _ _ h => h) HT3.out (fun _ => trivial) ?rb ?_
  case rb =>
    refine RG.RunsIf.weak (v := ?_) (by rfl) (by rfl) (fun Z hT => ?_) ?_
    rotate_left
    · go_simp
      rfl
    simp only [Act.put, List.setIfInBounds_toArray, List.set_cons_zero, List.set_cons_succ, List.getElem_toArray, List.getElem_cons_zero, List.getElem_cons_succ]
    refine RG.RunsIf.weak (v := ?_) (by rfl) (by rfl) (fun Z hT => ?_) ?_
    rotate_left
    · go_simp
      rfl
    simp only [Act.put, List.setIfInBounds_toArray, List.set_cons_zero, List.set_cons_succ, List.getElem_toArray, List.getElem_cons_zero, List.getElem_cons_succ]
    refine RG.RunsIf.weak (v := ?_) (by rfl) (by rfl) (fun Z hT => ?_) ?_
    rotate_left
    · go_simp
      rfl
    simp only [Act.put, List.setIfInBounds_toArray, List.set_cons_zero, List.set_cons_succ, List.getElem_toArray, List.getElem_cons_zero, List.getElem_cons_succ]
    refine RG.RunsIf.weak (v := ?_) (by rfl) (by rfl) (fun Z hT => ?_) ?_
    rotate_left
    · go_simp
      rfl
    simp only [Act.put, List.setIfInBounds_toArray, List.set_cons_zero, List.set_cons_succ, List.getElem_toArray, List.getElem_cons_zero, List.getElem_cons_succ]
    refine RG.RunsIf.weak (v := ?_) (by rfl) (by rfl) (fun Z hT => ?_) ?_
    rotate_left
    · go_simp
      rfl
    simp only [Act.put, List.setIfInBounds_toArray, List.set_cons_zero, List.set_cons_succ, List.getElem_toArray, List.getElem_cons_zero, List.getElem_cons_succ]
    exact RG.RunsIf.nil
  refine RG.wpL_done (by kernel_rfl) ?_ _
  refine NoPanic.normal ?_
  refine HKK.out _ _ ?_
  clear HKK KK
  have N8 := TW.hide (blk_keep N7.out HT3.out)
  have NQ8 := TW.hide (blk_keep NQ.out HT3.out)
  have B8 : Hid (Below B w y3) := below_row B7.out HT3.out (by have := blk_lt N7.out; omega)
  have Q1 := TW.hide (QA.out.below HT3.out)
  have Q2 := TW.hide (QB.out.below HT3.out)
  clear HT1 HT2 HT3 HTa N7 NQ B7 QA QB HSA HCQ BX
  refine wp_seq_k fun KK hK => ?_
  have HK := TW.hide hK
  clear hK
  go_wp2_with fail
  refine HK.out _ _ ?_
  clear HK KK
  refine wp_seq_k fun KK hK => ?_
  have HK := TW.hide hK
  clear hK
  go_wp2_with (refine wpList_val (.agg (pcP p (.slice sa s.length sc) (.slice ta t.length tc))) (by rfl) (exec_load_row' 26 _ (by rfl) (B) (by rfl) 26 (pcP p (.slice sa s.length sc) (.slice ta t.length tc)) (0, 0) _ N8.out Tryd.underlying26 rfl (info31 _ _ _)) ?_)
  refine (HCO.out _ B8.out).mono ?_
  rintro e w8 ⟨a3, c3, a4, c4, rfl, pa, pb, hb⟩
  have N9 := TW.hide (blk_keep N8.out hb)
  have NQ9 := TW.hide (blk_keep NQ8.out hb)
  have B9 : Hid (Below B w w8) := below_row B8.out hb (by have := blk_lt N8.out; omega)
  have R1 := TW.hide (Q1.out.below hb)
  have R2 := TW.hide (Q2.out.below hb)
  have PA := TW.hide pa.toPb
  have PB := TW.hide pb.toPb
  clear hb N8 B8 pa pb NQ8 Q1 Q2
  go_wp2_with fail
  refine (HSH.out _ _ _ _ _ PA.out PB.out (fun Z hZ => HTB.out Z (below_row B9.out hZ (by have := blk_lt N9.out; omega)))).mono ?_
  rintro e w9 ⟨rfl, hb⟩
  have NQa := TW.hide (blk_keep NQ9.out hb)
  have Ba : Hid (Below B w w9) := below_row B9.out hb (by have := blk_lt N9.out; omega)
  have S1 := TW.hide (R1.out.below hb)
  have S2 := TW.hide (R2.out.below hb)
  have hlt9 := blk_lt NQa.out
  clear hb N9 B9 NQ9 R1 R2 PA PB HSH HCO
  go_wp2_with fail
  refine HK.out _ _ ?_
  clear HK KK
  refine wp_seq_k fun KK hK => ?_
  have HK := TW.hide hK
  clear hK
  go_wp2_with fail
  refine (HRD.out _ (fun Z hZ => HMX.out Z (below_row Ba.out hZ (by omega))) (fun Z hZ => HTB.out Z (below_row Ba.out hZ (by omega)))).mono ?_
  rintro e wa ⟨b1, e1, b2, e2, rfl, r1, r2, hb⟩
  have NQb := TW.hide (blk_keep NQa.out hb)
  have Bb : Hid (Below B w wa) := below_row Ba.out hb (by omega)
  have U1 := TW.hide (S1.out.below hb)
  have U2 := TW.hide (S2.out.below hb)
  clear hb NQa Ba S1 S2 HRD HMX HTB hlt9
  go_wp2_with (first | (refine wpList_store_row (by rfl) 26 _ _ (by rfl) (wa.heap.size) (pcP p (.slice b1 S.length e1) (.slice b2 T.length e2)) (by rfl) (by rfl) 26 _ (heap_new wa _) (info31 _ _ _) (pc_size Pm.zero _ _ _ _ _) (pc_one _ _ _ _ _ _ _) ?_))
  have nz := setRow_heap _ _ _ (pcP p (.slice b1 S.length e1) (.slice b2 T.length e2)) _ _ (heap_new wa (.cells #[.int .i64 0, .int .i64 0, .int .i64 0, .int .i64 0, .int .u32 0, .int .u64 0, .int .u32 0, .int .i64 0, .int .i64 0, .slice none 0 0, .slice none 0 0] 26))
  have bz := below_setRow (cs := (pcP p (.slice b1 S.length e1) (.slice b2 T.length e2))) ((Below.refl wa.heap.size wa).alloc (Nat.le_refl _) (.cells #[.int .i64 0, .int .i64 0, .int .i64 0, .int .i64 0, .int .u32 0, .int .u64 0, .int .u32 0, .int .i64 0, .int .i64 0, .slice none 0 0, .slice none 0 0] 26)) (g := wa.heap.size) (Nat.le_refl _)
  generalize (wa.alloc (.cells #[.int .i64 0, .int .i64 0, .int .i64 0, .int .i64 0, .int .u32 0, .int .u64 0, .int .u32 0, .int .i64 0, .int .i64 0, .slice none 0 0, .slice none 0 0] 26)).setRow wa.heap.size (pcP p (.slice b1 S.length e1) (.slice b2 T.length e2)) = Z at nz bz ⊢
  have NZ := TW.hide nz
  have NQc := TW.hide (blk_keep NQb.out bz)
  have Bc : Hid (Below B w Z) := below_row Bb.out bz (by have := blk_lt NQb.out; omega)
  have V1 := TW.hide (U1.out.toPb.below bz)
  have V2 := TW.hide (U2.out.toPb.below bz)
  have V3 := TW.hide (r1.below bz)
  have V4 := TW.hide (r2.below bz)
  have hlc := blk_lt NQc.out
  generalize hZ : wa.heap.size = D at *
  clear nz bz r1 r2 U1 U2 NQb Bb
  refine HK.out _ _ ?_
  clear HK KK
  refine wp_seq_k fun KK hK => ?_
  have HK := TW.hide hK
  clear hK
  go_wp2_with fail
  refine HK.out _ _ ?_
  clear HK KK
  go_wp2_with (first | (refine wpList_val (.agg (pcP p (.slice b1 S.length e1) (.slice b2 T.length e2))) (by rfl) (exec_load_row' 26 _ (by rfl) (D) (by rfl) 26 (pcP p (.slice b1 S.length e1) (.slice b2 T.length e2)) (0, 0) _ NZ.out Tryd.underlying26 rfl (info31 _ _ _)) ?_) | (refine wpList_val (.agg (pcP p (.slice u1 S.length d1) (.slice u2 T.length d2))) (by rfl) (exec_load_row' 26 _ (by rfl) (Q) (by rfl) 26 (pcP p (.slice u1 S.length d1) (.slice u2 T.length d2)) (0, 0) _ NQc.out Tryd.underlying26 rfl (info31 _ _ _)) ?_))
  refine (HAK.out _ _ _ _ _ _ _ _ _ V3.out V4.out V1.out V2.out).mono ?_
  rintro e wd ⟨rfl, hb⟩
  have Bd : Hid (Below B w wd) := below_row Bc.out hb (by omega)
  clear hb
  go_wp2_with fail
  go_ret
  exact ⟨rfl, Bd.out⟩

end LW
end Go.Proofs.YteakoajkmcbilabDoor
