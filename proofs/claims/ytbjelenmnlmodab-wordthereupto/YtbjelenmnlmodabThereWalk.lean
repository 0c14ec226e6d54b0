/-
  The walk of WordThere: it returns true for every input of bulk at most 1048576.
-/
import Derived.Test.YtbjelenmnlmodabThereB
import Derived.Test.YtbjelenmnlmodabArgs
namespace Go.Proofs.Ytbjelenmnlmodab
open Go.RowKit Go.ChangeShapes
set_option linter.unusedVariables false
namespace LW
open Words Txt B64
theorem drewN_below {w w' : World} {B : Nat} (h : Below B w w') (n : Nat) : Below B w (w'.drewN n) := h.trans ⟨rfl, rfl, rfl, Nat.le_refl _, fun _ _ => rfl⟩
theorem G_len2 : ∀ (zs : List Int), (G 0 0 zs).length ≤ 2 * zs.length
  | [] => by simp [G]
  | [a] => by simp [G]
  | [a, b] => by simp [G]
  | a :: b :: c :: l => by have := G_len2 l; simp [G]; omega
theorem enc_len {zs : List Int} (h : Byt zs) : (enc zs).length ≤ 2 * zs.length := by
  unfold enc
  rw [List.length_map, F_G zs h]
  exact G_len2 zs
theorem D_len7 (vs : List Int) : (D vs).out.length ≤ 6 * vs.length := by
  have key : ∀ (vs : List Int) (s : St), (vs.foldl St.lett s).out.length ≤ s.out.length + 6 * vs.length := by
    intro vs
    induction vs with
    | nil => intro s; simp
    | cons v vs ih =>
      intro s
      have h1 := ih (s.lett v)
      have h2 : (s.lett v).out.length ≤ s.out.length + 6 := by
        show ((b6 v).foldl (St.bit 8) s).out.length ≤ _
        have key2 : ∀ (l : List Int) (s : St), (l.foldl (St.bit 8) s).out.length ≤ s.out.length + l.length := by
          intro l
          induction l with
          | nil => intro s; simp
          | cons b l ih => intro s; have := ih (s.bit 8 b); have := out_len 8 s b; simp only [List.foldl_cons, List.length_cons]; omega
        exact key2 (b6 v) s
      simp only [List.foldl_cons, List.length_cons]
      omega
  have h1 := key vs st0
  have e : st0.out.length = 0 := rfl
  show (vs.foldl St.lett st0).out.length ≤ _
  omega
theorem bB_len7 (l : List Int) : (bB l).length ≤ 6 * l.length := by
  unfold bB
  split
  · have := D_len7 (l.map bw)
    rwa [List.length_map] at this
  · simp
theorem bE_cases (l : List Int) : bE l = 0 ∨ bE l = 4 := by unfold bE; split <;> simp
theorem hexE_cases (l : List Int) : hexE l = 0 ∨ hexE l = 4 := by unfold hexE; split <;> simp
theorem hexB_byt {l : List Int} (h : hexE l = 0) : Byt (hexB l) := by
  have hok : hexOk l = true := by
    unfold hexE at h
    split at h
    · assumption
    · omega
  have h2 := hok
  simp only [hexOk, decide_eq_true_eq] at h2
  have hall := all_bad hw l h2.1
  rw [hexB, if_pos hok]
  have key : ∀ l : List Int, (∀ x ∈ l, hw x ≠ -1) → Byt (uh l) := by
    intro l
    match l with
    | [] => intro _; exact Byt.nil
    | [a] => intro _; exact Byt.nil
    | a :: b :: l =>
      intro h
      have ha := h a (by simp)
      have hb := h b (by simp)
      have d1 := hw_bd a
      have d2 := hw_bd b
      have ih : Byt (uh l) := by
        have : ∀ (n : Nat) (l : List Int), l.length ≤ n → (∀ x ∈ l, hw x ≠ -1) → Byt (uh l) := by
          intro n
          induction n with
          | zero => intro l hl _; obtain rfl := List.length_eq_zero_iff.1 (Nat.le_zero.1 hl); exact Byt.nil
          | succ n ih =>
            intro l hl h
            match l, hl, h with
            | [], _, _ => exact Byt.nil
            | [a], _, _ => exact Byt.nil
            | a :: b :: l, hl, h =>
              have ha := h a (by simp)
              have hb := h b (by simp)
              have d1 := hw_bd a
              have d2 := hw_bd b
              exact Byt.mk (by omega) (by omega) (ih l (by simp at hl; omega) fun x hx => h x (by simp [hx]))
        exact this l.length l (Nat.le_refl _) fun x hx => h x (by simp [hx])
      exact Byt.mk (by omega) (by omega) ih
  exact key l hall
theorem uh_le (l : List Int) : (hexB l).length ≤ l.length := by
  unfold hexB
  split
  · rw [uh_length]; omega
  · simp
/-- What the law asks of its calls. -/
structure Calls7 (a : Option Addr) (cap len : Nat) (zs : List Int) (s t1 t2 : ByteArray) (A1 A2 : Int) : Prop where
  hex : ∀ W, Row W a zs → Calls Try.prog 14 #[.slice a len cap] W fun e w' => e = .returned (.string t1) ∧ Below W.heap.size W w'
  size : t1.size = 2 * len
  unhex1 : ∀ W, Calls Try.prog 15 #[.string t1] W fun e w' => ∃ a1 c1, e = .returned (.tuple #[.slice a1 len c1, .int .i64 A1, .int .i64 0]) ∧ Row w' a1 zs ∧ Below W.heap.size W w'
  base : ∀ W, Row W a zs → Calls Try.prog 18 #[.slice a len cap] W fun e w' => e = .returned (.string t2) ∧ Below W.heap.size W w'
  unbase1 : ∀ W, Calls Try.prog 19 #[.string t2] W fun e w' => ∃ a1 c1, e = .returned (.tuple #[.slice a1 len c1, .int .i64 A2, .int .i64 0]) ∧ Row w' a1 zs ∧ Below W.heap.size W w'
  same : ∀ W a1 c1, Row W a1 zs → Row W a zs → Calls Try.prog 11 #[.slice a1 len c1, .slice a len cap] W fun e w' => e = .returned (.bool true) ∧ ∃ q, w' = W.drewN q
theorem calls7 (a : Option Addr) (cap : Nat) (zs : List Int) (s : ByteArray) (hz : Byt zs) (hm : zs.length ≤ 1048576) :
    Calls7 a cap zs.length zs s (strOfNums (hx zs)) (strOfNums (enc zs)) (hexAt (hx zs)) (bAt (enc zs)) where
  hex W h := LW.hex a cap zs W hz h (by omega)
  size := by rw [strOfNums_size, hx_length]
  unhex1 W := by
    have h := unhex (strOfNums (hx zs)) W (by rw [strOfNums_size, hx_length]; omega)
    rw [sb_str _ (hx_byt hz), hexB_hx hz, hexE_hx hz] at h
    refine h.mono ?_
    rintro e w' ⟨v, rfl, hown, hb⟩
    obtain ⟨a1, c1, rfl, hr, _⟩ := row_of_own hown
    exact ⟨a1, c1, rfl, hr, hb⟩
  base W h := LW.base64 a cap zs W hz h (by omega)
  unbase1 W := by
    have hl := enc_len hz
    have h := unbase (strOfNums (enc zs)) W (by rw [strOfNums_size]; omega)
    rw [sb_str _ (enc_byt hz), bB_enc hz, bE_enc hz] at h
    refine h.mono ?_
    rintro e w' ⟨v, rfl, hown, hb⟩
    obtain ⟨a1, c1, rfl, hr, _⟩ := row_of_own hown
    exact ⟨a1, c1, rfl, hr, hb⟩
  same W a1 c1 h1 h2 := by
    have := LW.same a1 a c1 cap zs zs W h1 h2 (by unfold maxLen; omega) (by unfold maxLen; omega)
    simpa using this
/-- What the law asks of its calls on the text. -/
structure Calls7s (s : ByteArray) (l : List Int) : Prop where
  unbase2 : ∀ W, Calls Try.prog 19 #[.string s] W fun e w' => ∃ a1 c1, e = .returned (.tuple #[.slice a1 (bB l).length c1, .int .i64 (bAt l), .int .i64 (bE l)]) ∧ Row w' a1 (bB l) ∧ Below W.heap.size W w'
  base2 : bE l = 0 → ∀ W a1 c1, Row W a1 (bB l) → Calls Try.prog 18 #[.slice a1 (bB l).length c1] W fun e w' => e = .returned (.string s) ∧ Below W.heap.size W w'
  unhex2 : ∀ W, Calls Try.prog 15 #[.string s] W fun e w' => ∃ a1 c1, e = .returned (.tuple #[.slice a1 (hexB l).length c1, .int .i64 (hexAt l), .int .i64 (hexE l)]) ∧ Row w' a1 (hexB l) ∧ Below W.heap.size W w'
  hex2 : hexE l = 0 → (∀ x ∈ l, ¬ (65 ≤ x ∧ x ≤ 70)) → ∀ W a1 c1, Row W a1 (hexB l) → Calls Try.prog 14 #[.slice a1 (hexB l).length c1] W fun e w' => e = .returned (.string s) ∧ Below W.heap.size W w'
theorem calls7s (s : ByteArray) (hs : s.size ≤ 1048576) : Calls7s s (sb s) where
  unbase2 W := by
    refine (unbase s W (by omega)).mono ?_
    rintro e w' ⟨v, rfl, hown, hb⟩
    obtain ⟨a1, c1, rfl, hr, _⟩ := row_of_own hown
    exact ⟨a1, c1, rfl, hr, hb⟩
  base2 he W a1 c1 h := by
    have hb := base_back (sb s) he
    have hl := bB_len7 (sb s)
    rw [sb_length] at hl
    have := LW.base64 a1 c1 (bB (sb s)) W hb.1 h (by omega)
    rw [hb.2, str_sb] at this
    exact this
  unhex2 W := by
    refine (unhex s W (by omega)).mono ?_
    rintro e w' ⟨v, rfl, hown, hb⟩
    obtain ⟨a1, c1, rfl, hr, _⟩ := row_of_own hown
    exact ⟨a1, c1, rfl, hr, hb⟩
  hex2 he hc W a1 c1 h := by
    have hb := hex_back (sb s) he hc
    have hl := uh_le (sb s)
    rw [sb_length] at hl
    have := LW.hex a1 c1 (hexB (sb s)) W (hexB_byt he) h (by omega)
    rw [hb, str_sb] at this
    exact this
set_option maxHeartbeats 2000000 in
theorem theres (a : Option Addr) (cap : Nat) (zs : List Int) (s : ByteArray) (w : World) (hz : Byt zs) (hr : Row w a zs) (hn : a = none → cap = 0) (hm : zs.length ≤ 1048576) (hs : s.size ≤ 1048576) :
    Calls Try.prog 7 #[.slice a zs.length cap, .string s] w fun e w' => e = .returned (.bool true) ∧ Below w.heap.size w w' := by
  have c7 := calls7 a cap zs s hz hm
  have c7s := calls7s s hs
  have hix := fun k h => index_s s k h (by omega)
  have hlen := sb_length s
  have hbe := bE_cases (sb s)
  have hhe := hexE_cases (sb s)
  have hbt := sb_byt s
  generalize hexAt (hx zs) = A1 at *
  generalize bAt (enc zs) = A2 at *
  generalize strOfNums (hx zs) = t1 at *
  generalize strOfNums (enc zs) = t2 at *
  generalize sb s = l at *
  obtain ⟨len, hzl⟩ : ∃ len, zs.length = len := ⟨_, rfl⟩
  rw [hzl] at c7 hm ⊢
  have htz := c7.size
  have C := TW.hide c7
  have CS := TW.hide c7s
  have HI := TW.hide hix
  have HL := TW.hide hlen
  have HR := TW.hide hr
  have HHE := TW.hide hhe
  have HBT := TW.hide hbt
  clear c7 c7s hix hlen hr hhe hzl hz hn hbt
  rcases hbe with hbe | hbe
  · have HBE := TW.hide hbe
    clear hbe
    go_enter Try.func7, Try.ntmps7
    go_wp2_with fail
    refine (C.out.hex _ HR.out).mono ?_
    rintro e w1 ⟨rfl, hb1⟩
    have B1 := TW.hide hb1
    clear hb1
    go_wp2_with fail
    refine (C.out.unhex1 _).mono ?_
    rintro e w2 ⟨a2, c2, rfl, hr2, hb2⟩
    have R2 := TW.hide hr2
    have B2 : Hid (Below w.heap.size w w2) := B1.out.trans (hb2.mono B1.out.size)
    clear hr2 hb2
    go_wp2_with fail
    refine (C.out.base _ (HR.out.below B2.out)).mono ?_
    rintro e w3 ⟨rfl, hb3⟩
    have R2' := TW.hide (R2.out.below hb3)
    have B3 : Hid (Below w.heap.size w w3) := B2.out.trans (hb3.mono B2.out.size)
    clear hb3 R2
    go_wp2_with fail
    refine (C.out.unbase1 _).mono ?_
    rintro e w4 ⟨a4, c4, rfl, hr4, hb4⟩
    have R4 := TW.hide hr4
    have R2 := TW.hide (R2'.out.below hb4)
    have B4 : Hid (Below w.heap.size w w4) := B3.out.trans (hb4.mono B3.out.size)
    clear hr4 hb4 R2'
    go_wp2_with fail
    refine (C.out.same _ _ _ R2.out (HR.out.below B4.out)).mono ?_
    rintro e w5 ⟨rfl, q5, rfl⟩
    go_wp2_with fail
    refine (C.out.same _ _ _ (R4.out.drewN _) ((HR.out.below B4.out).drewN _)).mono ?_
    rintro e w5 ⟨rfl, q6, rfl⟩
    go_wp2_with fail
    refine (C.out.hex _ ((HR.out.below B4.out).drewN _)).mono ?_
    rintro e w6 ⟨rfl, hb6⟩
    have B6 : Hid (Below w.heap.size w w6) := (drewN_below B4.out (q5 + q6)).trans (hb6.mono B4.out.size)
    clear hb6
    go_wp2_with fail
    refine (CS.out.unbase2 _).mono ?_
    rintro e w7 ⟨a7, c7, rfl, hr7, hb7⟩
    have R7 := TW.hide hr7
    have B7 : Hid (Below w.heap.size w w7) := B6.out.trans (hb7.mono B6.out.size)
    clear hr7 hb7
    rw [HBE.out]
    generalize bAt l = A7 at *
    go_wp2_with fail
    refine (CS.out.base2 HBE.out _ _ _ R7.out).mono ?_
    rintro e w8 ⟨rfl, hb8⟩
    have B8 : Hid (Below w.heap.size w w8) := B7.out.trans (hb8.mono B7.out.size)
    clear hb8
    go_wp2_with fail
    refine (CS.out.unhex2 _).mono ?_
    rintro e w9 ⟨a9, c9, rfl, hr9, hb9⟩
    have R9 := TW.hide hr9
    have B9 : Hid (Below w.heap.size w w9) := B8.out.trans (hb9.mono B8.out.size)
    clear hr9 hb9
    rcases HHE.out with hhe | hhe
    · rw [hhe]
      have HE := TW.hide hhe
      clear hhe
      generalize hexAt l = A9 at *
      go_wp2_with fail
      go_loop [17] (fun i => ∃ k : Nat, k ≤ s.size ∧ i = .int .i64 k ∧ ∀ j, j < k → ¬ (65 ≤ l.getD j 0 ∧ l.getD j 0 ≤ 70)) (fun i => s.size - (intOf i).toNat)
      case atStart => exact ⟨0, Nat.zero_le _, rfl, fun j h => absurd h (Nat.not_lt_zero _)⟩
      case round =>
        obtain ⟨k, hk, rfl, hall⟩ := hrel
        have HA := TW.hide hall
        clear hall
        by_cases hlt : k < s.size
        · have hi1 := HI.out k hlt
          have hst : ∀ j, j < k + 1 → ¬ (65 ≤ l.getD k 0 ∧ l.getD k 0 ≤ 70) → ¬ (65 ≤ l.getD j 0 ∧ l.getD j 0 ≤ 70) := by
            intro j hj hg
            rcases Nat.lt_or_eq_of_le (Nat.lt_succ_iff.1 hj) with h' | rfl
            · exact HA.out j h'
            · exact hg
          generalize l.getD k 0 = c at *
          have HST := TW.hide hst
          clear hst
          by_cases x1 : 65 ≤ c
          · by_cases x2 : c ≤ 70
            · go_wp2_with fail
              go_ret
              exact ⟨rfl, B9.out⟩
            · go_wp2_with fail
              go_round
              case rel => exact ⟨k + 1, by omega, by go_num, fun j hj => HST.out j hj (by omega)⟩
              case measure => simp [intOf]; omega
          · go_wp2_with fail
            go_round
            case rel => exact ⟨k + 1, by omega, by go_num, fun j hj => HST.out j hj (by omega)⟩
            case measure => simp [intOf]; omega
        · have hall : ∀ x ∈ l, ¬ (65 ≤ x ∧ x ≤ 70) := by
            intro x hx
            obtain ⟨j, hj, rfl⟩ := List.getElem_of_mem hx
            have h1 := HA.out j (by have := HL.out; omega)
            rwa [List.getD_eq_getElem?_getD, List.getElem?_eq_getElem hj] at h1
          have HAL := TW.hide hall
          clear hall
          go_wp2_with fail
          refine (CS.out.hex2 HE.out HAL.out _ _ _ R9.out).mono ?_
          rintro e w10 ⟨rfl, hb10⟩
          have B10 : Hid (Below w.heap.size w w10) := B9.out.trans (hb10.mono B9.out.size)
          clear hb10
          go_wp2_with fail
          go_ret
          exact ⟨rfl, B10.out⟩
    · rw [hhe]
      have HE := TW.hide hhe
      clear hhe
      generalize hexAt l = A9 at *
      go_wp2_with fail
      go_ret
      exact ⟨rfl, B9.out⟩
  · have HBE := TW.hide hbe
    clear hbe
    go_enter Try.func7, Try.ntmps7
    go_wp2_with fail
    refine (C.out.hex _ HR.out).mono ?_
    rintro e w1 ⟨rfl, hb1⟩
    have B1 := TW.hide hb1
    clear hb1
    go_wp2_with fail
    refine (C.out.unhex1 _).mono ?_
    rintro e w2 ⟨a2, c2, rfl, hr2, hb2⟩
    have R2 := TW.hide hr2
    have B2 : Hid (Below w.heap.size w w2) := B1.out.trans (hb2.mono B1.out.size)
    clear hr2 hb2
    go_wp2_with fail
    refine (C.out.base _ (HR.out.below B2.out)).mono ?_
    rintro e w3 ⟨rfl, hb3⟩
    have R2' := TW.hide (R2.out.below hb3)
    have B3 : Hid (Below w.heap.size w w3) := B2.out.trans (hb3.mono B2.out.size)
    clear hb3 R2
    go_wp2_with fail
    refine (C.out.unbase1 _).mono ?_
    rintro e w4 ⟨a4, c4, rfl, hr4, hb4⟩
    have R4 := TW.hide hr4
    have R2 := TW.hide (R2'.out.below hb4)
    have B4 : Hid (Below w.heap.size w w4) := B3.out.trans (hb4.mono B3.out.size)
    clear hr4 hb4 R2'
    go_wp2_with fail
    refine (C.out.same _ _ _ R2.out (HR.out.below B4.out)).mono ?_
    rintro e w5 ⟨rfl, q5, rfl⟩
    go_wp2_with fail
    refine (C.out.same _ _ _ (R4.out.drewN _) ((HR.out.below B4.out).drewN _)).mono ?_
    rintro e w5 ⟨rfl, q6, rfl⟩
    go_wp2_with fail
    refine (C.out.hex _ ((HR.out.below B4.out).drewN _)).mono ?_
    rintro e w6 ⟨rfl, hb6⟩
    have B6 : Hid (Below w.heap.size w w6) := (drewN_below B4.out (q5 + q6)).trans (hb6.mono B4.out.size)
    clear hb6
    go_wp2_with fail
    refine (CS.out.unbase2 _).mono ?_
    rintro e w7 ⟨a7, c7, rfl, hr7, hb7⟩
    have R7 := TW.hide hr7
    have B7 : Hid (Below w.heap.size w w7) := B6.out.trans (hb7.mono B6.out.size)
    clear hr7 hb7
    rw [HBE.out]
    generalize bAt l = A7 at *
    go_wp2_with fail
    have B8 := B7
    refine (CS.out.unhex2 _).mono ?_
    rintro e w9 ⟨a9, c9, rfl, hr9, hb9⟩
    have R9 := TW.hide hr9
    have B9 : Hid (Below w.heap.size w w9) := B8.out.trans (hb9.mono B8.out.size)
    clear hr9 hb9
    rcases HHE.out with hhe | hhe
    · rw [hhe]
      have HE := TW.hide hhe
      clear hhe
      generalize hexAt l = A9 at *
      go_wp2_with fail
      go_loop [17] (fun i => ∃ k : Nat, k ≤ s.size ∧ i = .int .i64 k ∧ ∀ j, j < k → ¬ (65 ≤ l.getD j 0 ∧ l.getD j 0 ≤ 70)) (fun i => s.size - (intOf i).toNat)
      case atStart => exact ⟨0, Nat.zero_le _, rfl, fun j h => absurd h (Nat.not_lt_zero _)⟩
      case round =>
        obtain ⟨k, hk, rfl, hall⟩ := hrel
        have HA := TW.hide hall
        clear hall
        by_cases hlt : k < s.size
        · have hi1 := HI.out k hlt
          have hst : ∀ j, j < k + 1 → ¬ (65 ≤ l.getD k 0 ∧ l.getD k 0 ≤ 70) → ¬ (65 ≤ l.getD j 0 ∧ l.getD j 0 ≤ 70) := by
            intro j hj hg
            rcases Nat.lt_or_eq_of_le (Nat.lt_succ_iff.1 hj) with h' | rfl
            · exact HA.out j h'
            · exact hg
          generalize l.getD k 0 = c at *
          have HST := TW.hide hst
          clear hst
          by_cases x1 : 65 ≤ c
          · by_cases x2 : c ≤ 70
            · go_wp2_with fail
              go_ret
              exact ⟨rfl, B9.out⟩
            · go_wp2_with fail
              go_round
              case rel => exact ⟨k + 1, by omega, by go_num, fun j hj => HST.out j hj (by omega)⟩
              case measure => simp [intOf]; omega
          · go_wp2_with fail
            go_round
            case rel => exact ⟨k + 1, by omega, by go_num, fun j hj => HST.out j hj (by omega)⟩
            case measure => simp [intOf]; omega
        · have hall : ∀ x ∈ l, ¬ (65 ≤ x ∧ x ≤ 70) := by
            intro x hx
            obtain ⟨j, hj, rfl⟩ := List.getElem_of_mem hx
            have h1 := HA.out j (by have := HL.out; omega)
            rwa [List.getD_eq_getElem?_getD, List.getElem?_eq_getElem hj] at h1
          have HAL := TW.hide hall
          clear hall
          go_wp2_with fail
          refine (CS.out.hex2 HE.out HAL.out _ _ _ R9.out).mono ?_
          rintro e w10 ⟨rfl, hb10⟩
          have B10 : Hid (Below w.heap.size w w10) := B9.out.trans (hb10.mono B9.out.size)
          clear hb10
          go_wp2_with fail
          go_ret
          exact ⟨rfl, B10.out⟩
    · rw [hhe]
      have HE := TW.hide hhe
      clear hhe
      generalize hexAt l = A9 at *
      go_wp2_with fail
      go_ret
      exact ⟨rfl, B9.out⟩
end LW
end Go.Proofs.Ytbjelenmnlmodab
