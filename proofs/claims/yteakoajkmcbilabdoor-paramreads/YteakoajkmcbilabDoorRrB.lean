/-
  The document's number and pairs; facts for its Read.
-/
import Derived.Test.YteakoajkmcbilabDoorRrA
namespace Go.Proofs.YteakoajkmcbilabDoor
open Go.RowKit Go.Shelf
set_option linter.unusedVariables false
set_option linter.unusedSimpArgs false
namespace LW
open Words Txt
theorem dcs_pos (n : Nat) : 1 ≤ (dcs n).length := by
  by_cases h : n < 10
  · rw [dcs_small n h]; simp
  · rw [dcs_great n h]; simp
theorem dcs_lead (n : Nat) : 1 < (dcs n).length → (dcs n).getD 0 0 ≠ 48 := by
  induction n using Nat.strongRecOn with
  | _ n ih =>
    intro h
    by_cases h1 : n < 10
    · rw [dcs_small n h1] at h; simp at h
    · rw [dcs_great n h1]
      by_cases h2 : n / 10 < 10
      · rw [dcs_small _ h2]; simp; omega
      · have hl : 1 < (dcs (n / 10)).length := by rw [dcs_great _ h2]; have := dcs_pos (n / 10 / 10); simp; omega
        have := ih (n / 10) (by omega) hl
        rw [List.getD_eq_getElem?_getD, List.getElem?_append_left (by omega), ← List.getD_eq_getElem?_getD]
        exact this
theorem dval_grow (b : List Int) (hb : ∀ z ∈ b, 48 ≤ z ∧ z ≤ 57) : ∀ acc : Int, 0 ≤ acc → acc ≤ b.foldl (fun a z => a * 10 + (z - 48)) acc := by
  induction b with
  | nil => intro acc _; exact Int.le_refl _
  | cons y b ih =>
    intro acc h
    have hy := hb y (by simp)
    have := ih (fun z hz => hb z (by simp [hz])) (acc * 10 + (y - 48)) (by omega)
    simp only [List.foldl_cons]
    omega
theorem dval_nn (a : List Int) (ha : ∀ z ∈ a, 48 ≤ z ∧ z ≤ 57) : 0 ≤ dval a := dval_grow a ha 0 (Int.le_refl _)
theorem dval_pre (a b : List Int) (ha : ∀ z ∈ a, 48 ≤ z ∧ z ≤ 57) (hb : ∀ z ∈ b, 48 ≤ z ∧ z ≤ 57) : dval a ≤ dval (a ++ b) := by
  unfold dval
  rw [List.foldl_append]
  exact dval_grow b hb _ (dval_nn a ha)
theorem canon (n : Nat) : ∀ l : List Int, l.length = n → (∀ z ∈ l, 48 ≤ z ∧ z ≤ 57) → l ≠ [] → (1 < l.length → l.getD 0 0 ≠ 48) → l = dcs (dval l).toNat := by
  induction n with
  | zero => intro l h _ hne _; exact absurd (List.length_eq_zero_iff.1 h) hne
  | succ n ih =>
    intro l h hd hne hl
    obtain ⟨m, z, rfl⟩ : ∃ m z, l = m ++ [z] := ⟨l.dropLast, l.getLast hne, (List.dropLast_concat_getLast hne).symm⟩
    have hz := hd z (by simp)
    have hm : ∀ y ∈ m, 48 ≤ y ∧ y ≤ 57 := fun y hy => hd y (by simp [hy])
    have hmn := dval_nn m hm
    rw [dval_snoc]
    by_cases h0 : m = []
    · subst h0
      have e : (dval [] * 10 + (z - 48)).toNat = (z - 48).toNat := by simp [dval]
      rw [e, dcs_small _ (by omega)]
      simp; omega
    · have hml : m.length = n := by simpa using h
      have hp : 0 < m.length := List.length_pos_iff.2 h0
      have hg : m.getD 0 0 = (m ++ [z]).getD 0 0 := by rw [List.getD_eq_getElem?_getD, List.getD_eq_getElem?_getD, List.getElem?_append_left hp]
      have hlead := hl (by simp; omega)
      rw [← hg] at hlead
      have hi := ih m hml hm h0 (fun _ => hlead)
      have hv : 1 ≤ dval m := by
        rcases Int.lt_or_eq_of_le hmn with h' | h'
        · omega
        · rw [← h'] at hi
          simp [dcs_small] at hi
          rw [hi] at hlead
          simp at hlead
      rw [dcs_great _ (by omega)]
      have e1 : (dval m * 10 + (z - 48)).toNat / 10 = (dval m).toNat := by omega
      have e2 : 48 + ((dval m * 10 + (z - 48)).toNat : Int) % 10 = z := by omega
      rw [e1, e2, ← hi]
theorem mem_getD {l : List Int} {z : Int} (h : z ∈ l) : ∃ j, j < l.length ∧ l.getD j 0 = z := by
  obtain ⟨j, hj, rfl⟩ := List.mem_iff_getElem.1 h
  exact ⟨j, hj, by rw [List.getD_eq_getElem?_getD, List.getElem?_eq_getElem hj]; rfl⟩
theorem take_succ_get (l : List Int) (k : Nat) (h : k < l.length) : l.take (k + 1) = l.take k ++ [l.getD k 0] := by
  rw [List.take_add_one, List.getElem?_eq_getElem h, List.getD_eq_getElem?_getD, List.getElem?_eq_getElem h]; rfl
theorem numV_yes (l : List Int) (hne : l ≠ []) (hl : 1 < l.length → l.getD 0 0 ≠ 48) (hd : ∀ j, j < l.length → 48 ≤ l.getD j 0 ∧ l.getD j 0 ≤ 57) (hv : dval l < 18446744073709551616) : numV l = some (dval l).toNat := by
  have hd' : ∀ z ∈ l, 48 ≤ z ∧ z ≤ 57 := fun z hz => by obtain ⟨j, hj, rfl⟩ := mem_getD hz; exact hd j hj
  have hc := canon l.length l rfl hd' hne hl
  have h0 := dval_nn l hd'
  rw [numV, if_pos ⟨hc, by omega⟩]
theorem numV_no (l : List Int) (h : l = [] ∨ (1 < l.length ∧ l.getD 0 0 = 48) ∨ (∃ j, j < l.length ∧ ¬ (48 ≤ l.getD j 0 ∧ l.getD j 0 ≤ 57)) ∨ ∃ k, 18446744073709551616 ≤ dval (l.take k)) : numV l = none := by
  cases hn : numV l with
  | none => rfl
  | some u =>
    exfalso
    obtain ⟨rfl, hu⟩ := numV_some hn
    rcases h with h | ⟨h1, h2⟩ | ⟨j, hj, h⟩ | ⟨k, h⟩
    · have := dcs_pos u; rw [h] at this; simp at this
    · exact dcs_lead u h1 h2
    · exact h (dcs_dig u _ (by rw [List.getD_eq_getElem?_getD, List.getElem?_eq_getElem hj]; exact List.getElem_mem hj))
    · have := dval_pre ((dcs u).take k) ((dcs u).drop k) (fun z hz => dcs_dig u z (List.mem_of_mem_take hz)) (fun z hz => dcs_dig u z (List.mem_of_mem_drop hz))
      rw [List.take_append_drop, dval_dcs] at this
      omega
/-- What the document's number gives. -/
def rnu (o : Option Nat) : Value := match o with
  | none => .tuple #[.int .u64 0, .bool false]
  | some u => .tuple #[.int .u64 u, .bool true]
set_option maxRecDepth 100000 in
set_option maxHeartbeats 2000000 in
theorem rnumber (l : List Int) (hb : Byt l) (hl : l.length ≤ 512) (w : World) :
    Calls Tryd.prog 35 #[.string (strOfNums l)] w fun e w' => e = .returned (rnu (numV l)) ∧ w = w' := by
  have hix := fun k h => index_s (strOfNums l) k (by rw [strOf_size]; exact h) (by rw [strOf_size]; omega)
  rw [sb_str _ hb] at hix
  have hsz := strOf_size l
  have HY := TW.hide (numV_yes l)
  have HN := TW.hide (numV_no l)
  have HTS := TW.hide (take_succ_get l)
  have hbt := TW.hide hb
  have HIX := TW.hide hix
  clear hix
  by_cases h0 : l = []
  · have hno := HN.out (.inl h0)
    subst h0
    rw [hno]
    have hqb : (strOfNums []).toList = [] := by rw [ByteArray.toList_eq]; rfl
    have hqa : (strOfNums []).toList.isEmpty = true := by rw [hqb]; rfl
    go_enter Tryd.func35, Tryd.ntmps35
    go_wp2
    go_ret2
    exact ⟨rfl, rfl⟩
  have hqb : ¬ (strOfNums l).toList = [] := fun h => h0 (by
    have := congrArg List.length h
    rw [ByteArray.toList_eq, Array.length_toList] at this
    have h2 : (strOfNums l).data.size = l.length := hsz
    rw [h2] at this
    exact List.length_eq_zero_iff.1 this)
  have hqa : (strOfNums l).toList.isEmpty = false := by cases h : (strOfNums l).toList with
    | nil => exact absurd h hqb
    | cons => rfl
  have hn0 : 0 < l.length := List.length_pos_iff.2 h0
  by_cases h1 : 1 < l.length ∧ l.getD 0 0 = 48
  · have hno := HN.out (.inr (.inl h1))
    have hi := HIX.out 0 hn0
    rw [h1.2] at hi
    have hi' : ∀ W, (Instr.index 9 (.string (strOfNums l)) (.int .i64 0)).run Tryd.prog W = .ok (.int .u8 48) W := hi
    have h1I : (1 : Int) < (l.length : Int) := by omega
    rw [hno]
    generalize l.length = n at *
    generalize strOfNums l = s at *
    clear hi h1 HN HY HTS HIX hno h0 hn0
    go_enter Tryd.func35, Tryd.ntmps35
    go_wp2
    go_ret2
    exact ⟨rfl, rfl⟩
  have hlead : 1 < l.length → l.getD 0 0 ≠ 48 := fun h h' => h1 ⟨h, h'⟩
  have hi0 := HIX.out 0 hn0
  have hb0 : (l.getD 0 0 == 48) = false ∨ ¬ (1 : Int) < (l.length : Int) := by
    by_cases h : 1 < l.length
    · exact .inl (by have := hlead h; exact beq_eq_false_iff_ne.2 this)
    · exact .inr (by omega)
  have HBG : Hid (∀ k, 0 ≤ l.getD k 0 ∧ l.getD k 0 < 256) := fun k => hb.get k
  have HY2 : Hid ((∀ j, j < l.length → 48 ≤ l.getD j 0 ∧ l.getD j 0 ≤ 57) → dval (l.take l.length) < 18446744073709551616 → numV l = some (dval (l.take l.length)).toNat) := fun hd hv => by
    rw [List.take_length] at hv ⊢
    exact HY.out h0 hlead hd hv
  have HD0 : Hid (dval (l.take 0) = 0) := by show _ = _; simp [dval]
  have HDS : Hid (∀ k, k < l.length → dval (l.take (k + 1)) = dval (l.take k) * 10 + (l.getD k 0 - 48)) := fun k hk => by rw [HTS.out k hk, dval_snoc]
  have HN2 : Hid ((∃ j, j < l.length ∧ ¬ (48 ≤ l.getD j 0 ∧ l.getD j 0 ≤ 57)) → numV l = none) := fun h => HN.out (.inr (.inr (.inl h)))
  have HN3 : Hid ((∃ k, 18446744073709551616 ≤ dval (l.take k)) → numV l = none) := fun h => HN.out (.inr (.inr (.inr h)))
  clear HY HN HTS hbt hb h1 h0 hlead
  have hi0' : ∀ W, (Instr.index 9 (.string (strOfNums l)) (.int .i64 0)).run Tryd.prog W = .ok (.int .u8 (l.getD 0 0)) W := hi0
  clear hi0
  generalize l.getD 0 0 = c0 at *
  generalize hln : l.length = n at *
  generalize strOfNums l = s at *
  have HQ : Hid ((c0 == 48) = false ∨ ¬ (1 : Int) < (n : Int)) := hb0
  clear hb0
  go_enter Tryd.func35, Tryd.ntmps35
  refine wp_seq_k fun KK hK => ?_
  have HK := TW.hide hK
  clear hK
  go_wp2
  refine HK.out _ _ ?_
  clear HK KK
  refine wp_seq_k fun KK hK => ?_
  have HK := TW.hide hK
  clear hK
  have HAFT : Hid (∀ u10 u11 u12 u13 u14 u15 u16 u17 u18 : Value, KK { tmps := #[.string s, undef, .int .u64 0, .bool false, undef, undef, undef, .string s, .bool false, .bool false, u10, u11, u12, u13, u14, u15, u16, u17, u18, undef, undef, undef, undef, undef, undef, undef, undef, undef, undef, undef, undef, undef, undef, undef, undef, undef, undef, undef, undef, undef, undef, undef, undef, undef, undef, undef, undef, undef, undef, undef], defers := [] } w) := by
    intro u10 u11 u12 u13 u14 u15 u16 u17 u18
    refine HK.out _ _ ?_
    clear HK KK HQ hi0'
    go_wp2
    go_loop [4, 5] (fun v i => ∃ k : Nat, k ≤ n ∧ i = .int .i64 k ∧ v = .int .u64 (dval (l.take k)) ∧ (0 ≤ dval (l.take k) ∧ dval (l.take k) < 18446744073709551616) ∧ ∀ j, j < k → 48 ≤ l.getD j 0 ∧ l.getD j 0 ≤ 57) (fun _ i => n - (intOf i).toNat)
    case atStart => exact ⟨0, Nat.zero_le _, rfl, by rw [HD0.out], by rw [HD0.out]; omega, fun j h => absurd h (Nat.not_lt_zero _)⟩
    case round =>
      obtain ⟨k, hk, rfl, rfl, hv, hall⟩ := hrel
      have HA := TW.hide hall
      clear hall
      by_cases hlt : k < n
      · have hi := HIX.out k hlt
        have hb := HBG.out k
        have hds := HDS.out k hlt
        have HN2' : Hid (¬ (48 ≤ l.getD k 0 ∧ l.getD k 0 ≤ 57) → numV l = none) := fun h => HN2.out ⟨k, hlt, h⟩
        have HN3' : Hid (18446744073709551616 ≤ dval (l.take (k + 1)) → numV l = none) := fun h => HN3.out ⟨k + 1, h⟩
        have HST : Hid (48 ≤ l.getD k 0 ∧ l.getD k 0 ≤ 57 → ∀ j, j < k + 1 → 48 ≤ l.getD j 0 ∧ l.getD j 0 ≤ 57) := fun hg j hj => by
          rcases Nat.lt_or_eq_of_le (Nat.lt_succ_iff.1 hj) with h' | rfl
          · exact HA.out j h'
          · exact hg
        have hkI : (k : Int) < (n : Int) := by omega
        have HDK := TW.hide hds
        clear hds
        generalize hc : l.getD k 0 = c at *
        generalize hx : dval (l.take k) = x at *
        by_cases h48 : c < 48
        · have HNO := TW.hide (HN2'.out (by omega))
          go_wp2
          go_ret2
          rw [HNO.out]
          exact ⟨rfl, rfl⟩
        by_cases h57 : 57 < c
        · have HNO := TW.hide (HN2'.out (by omega))
          go_wp2
          go_ret2
          rw [HNO.out]
          exact ⟨rfl, rfl⟩
        have e1 : IntKind.u8.wrap (c - 48) = c - 48 := by rw [IntKind.wrap_u8]; omega
        have e2 : IntKind.u64.wrap (c - 48) = c - 48 := by rw [IntKind.wrap_u64]; omega
        have e3 : IntKind.u64.wrap (18446744073709551615 - (c - 48)) = 18446744073709551615 - (c - 48) := by rw [IntKind.wrap_u64]; omega
        have e4 : (18446744073709551615 - (c - 48)).tdiv 10 = (18446744073709551615 - (c - 48)) / 10 := Int.tdiv_eq_ediv_of_nonneg (by omega)
        have e5 : IntKind.u64.wrap ((18446744073709551615 - (c - 48)) / 10) = (18446744073709551615 - (c - 48)) / 10 := by rw [IntKind.wrap_u64]; omega
        by_cases hbig : (18446744073709551615 - (c - 48)) / 10 < x
        · have HNO := TW.hide (HN3'.out (by rw [HDK.out]; omega))
          go_wp2
          go_ret2
          rw [HNO.out]
          exact ⟨rfl, rfl⟩
        · have e6 : IntKind.u64.wrap (10 * x) = 10 * x := by rw [IntKind.wrap_u64]; omega
          have e7 : IntKind.u64.wrap (10 * x + (c - 48)) = 10 * x + (c - 48) := by rw [IntKind.wrap_u64]; omega
          go_wp2
          go_round
          case rel => exact ⟨k + 1, by omega, by go_num, by rw [HDK.out]; go_num, by rw [HDK.out]; omega, HST.out (by omega)⟩
          case measure => simp [intOf]; omega
      · obtain rfl : k = n := by omega
        have HYE := TW.hide (HY2.out HA.out hv.2)
        generalize dval (l.take k) = x at *
        go_wp2
        go_ret2
        rw [HYE.out]
        refine ⟨?_, rfl⟩
        show _ = Ending.returned (.tuple #[.int .u64 ((x.toNat : Nat) : Int), .bool true])
        rw [Int.toNat_of_nonneg hv.1]
        rfl
  rcases HQ.out with hb0 | hb0
  · by_cases h1 : (1 : Int) < (n : Int)
    · go_wp2
      exact HAFT.out _ _ _ _ _ _ _ _ _
    · go_wp2
      exact HAFT.out _ _ _ _ _ _ _ _ _
  · go_wp2
    exact HAFT.out _ _ _ _ _ _ _ _ _
end LW
end Go.Proofs.YteakoajkmcbilabDoor
namespace Go.Proofs.YteakoajkmcbilabDoor
open Go.RowKit Go.Shelf
set_option linter.unusedVariables false
set_option linter.unusedSimpArgs false
namespace LW
open Words Txt
/-- What a small digit is worth; -1: it is none. -/
def lw (c : Int) : Int := if 48 ≤ c ∧ c ≤ 57 then c - 48 else if 97 ≤ c ∧ c ≤ 102 then c - 87 else -1
/-- The bytes so far; the last one may lack its lower half. -/
def hal : List Int → List Int
  | a :: b :: l => (16 * lw a + lw b) :: hal l
  | [a] => [16 * lw a]
  | [] => []
theorem lw_hw {c : Int} (h : lw c ≠ -1) : hw c = lw c ∧ dg (lw c) = c ∧ 0 ≤ lw c ∧ lw c ≤ 15 := by
  unfold lw at h ⊢
  unfold hw dg
  split
  · rename_i hc
    refine ⟨rfl, ?_, by omega, by omega⟩
    rw [if_pos (by omega)]; omega
  · rename_i hc
    split
    · rename_i hd
      refine ⟨rfl, ?_, by omega, by omega⟩
      rw [if_neg (by omega)]; omega
    · rename_i hd
      rw [if_neg hc, if_neg hd] at h
      exact absurd rfl h
theorem lw_dg (d : Int) (h0 : 0 ≤ d) (h1 : d < 16) : lw (dg d) ≠ -1 := by
  unfold dg lw
  split
  · rw [if_pos (by omega)]; omega
  · rw [if_neg (by omega), if_pos (by omega)]; omega
theorem hal_uh : ∀ l : List Int, (∀ x ∈ l, lw x ≠ -1) → l.length % 2 = 0 → hal l = uh l ∧ hx (uh l) = l
  | [], _, _ => ⟨rfl, rfl⟩
  | [a], _, h => by simp at h
  | a :: b :: l, hg, h => by
    obtain ⟨a1, a2, a3, a4⟩ := lw_hw (hg a (by simp))
    obtain ⟨b1, b2, b3, b4⟩ := lw_hw (hg b (by simp))
    obtain ⟨i1, i2⟩ := hal_uh l (fun x hx => hg x (by simp [hx])) (by simp at h; omega)
    refine ⟨by simp [hal, uh, a1, b1, i1], ?_⟩
    simp only [uh, hx, i2, a1, b1]
    rw [show (16 * lw a + lw b) / 16 = lw a by omega, show (16 * lw a + lw b) % 16 = lw b by omega, a2, b2]
theorem hal_take1 (l : List Int) (q : Nat) (h : 2 * q < l.length) : hal (l.take (2 * q + 1)) = hal (l.take (2 * q)) ++ [16 * lw (l.getD (2 * q) 0)] := by
  induction q generalizing l with
  | zero => match l, h with
    | a :: l, _ => simp [hal]
  | succ q ih => match l, h with
    | [a], h => simp at h
    | a :: b :: l, h =>
      have := ih l (by simp at h; omega)
      rw [show 2 * (q + 1) = 2 * q + 1 + 1 by omega]
      simp only [List.take_succ_cons, hal, List.cons_append, List.getD_cons_succ, this]
theorem hal_take2 (l : List Int) (q : Nat) (h : 2 * q + 1 < l.length) : hal (l.take (2 * q + 1 + 1)) = hal (l.take (2 * q)) ++ [16 * lw (l.getD (2 * q) 0) + lw (l.getD (2 * q + 1) 0)] := by
  induction q generalizing l with
  | zero => match l, h with
    | a :: b :: l, _ => simp [hal]
  | succ q ih => match l, h with
    | [a], h => simp at h
    | a :: b :: l, h =>
      have := ih l (by simp at h; omega)
      rw [show 2 * (q + 1) = 2 * q + 1 + 1 by omega]
      simp only [List.take_succ_cons, hal, List.cons_append, List.getD_cons_succ, this]
theorem hal_len (l : List Int) (q : Nat) (h : 2 * q ≤ l.length) : (hal (l.take (2 * q))).length = q := by
  induction q generalizing l with
  | zero => simp [hal]
  | succ q ih => match l, h with
    | [], h => simp at h
    | [a], h => simp at h; omega
    | a :: b :: l, h =>
      have := ih l (by simp at h; omega)
      rw [show 2 * (q + 1) = 2 * q + 1 + 1 by omega]
      simp only [List.take_succ_cons, hal, List.length_cons, this]
theorem bytV_yes (l : List Int) (h2 : l.length % 2 = 0) (hg : ∀ j, j < l.length → lw (l.getD j 0) ≠ -1) : bytV l = some (hal l) := by
  have hg' : ∀ x ∈ l, lw x ≠ -1 := fun x hx => by obtain ⟨j, hj, rfl⟩ := mem_getD hx; exact hg j hj
  obtain ⟨h3, h4⟩ := hal_uh l hg' h2
  have hb : bad hw l = l.length := bad_spec hw l l.length (Nat.le_refl _) (fun j hj => by
    have := lw_hw (hg j hj); rw [this.1]; exact hg j hj) (fun h => absurd h (Nat.lt_irrefl _))
  rw [bytV, if_pos ⟨hexOk_yes hb h2, h4⟩, h3]
theorem hx_lw : ∀ (m : List Int), Byt m → ∀ z ∈ hx m, lw z ≠ -1
  | [], _, z, hz => by simp [hx] at hz
  | y :: m, hb, z, hz => by
    have hy := hb y (by simp)
    simp only [hx, List.mem_cons] at hz
    rcases hz with rfl | rfl | hz
    · exact lw_dg _ (by omega) (by omega)
    · exact lw_dg _ (by omega) (by omega)
    · exact hx_lw m (fun x hx => hb x (by simp [hx])) z hz
theorem bytV_no (l : List Int) (hb : Byt l) (h : l.length % 2 ≠ 0 ∨ ∃ j, j < l.length ∧ lw (l.getD j 0) = -1) : bytV l = none := by
  cases hn : bytV l with
  | none => rfl
  | some b =>
    exfalso
    unfold bytV at hn
    split at hn
    · rename_i hh
      obtain ⟨h1, h2⟩ := hh
      have hok := h1
      unfold hexOk at hok
      have hok := of_decide_eq_true hok
      rcases h with h | ⟨j, hj, h⟩
      · exact h hok.2
      · have hm : l.getD j 0 ∈ l := by rw [List.getD_eq_getElem?_getD, List.getElem?_eq_getElem hj]; exact List.getElem_mem hj
        have := hx_lw (uh l) (uh_byt l hb (all_bad hw l hok.1)) (l.getD j 0) (by rw [h2]; exact hm)
        exact this h
    · cases hn
/-- What the document's pairs gives. -/
def PairPost (o : Option (List Int)) (w : World) (e : Ending) (w' : World) : Prop := Below w.heap.size w w' ∧ match o with
  | none => e = .returned (.tuple #[.slice none 0 0, .bool false])
  | some b => ∃ v, e = .returned (.tuple #[v, .bool true]) ∧ w'.ownsRow w.heap.size 5 1 v b.length (vs b)
attribute [local go_sem ↓] Go.wp_at_zero Go.wp_at_succ
set_option maxRecDepth 100000 in
set_option maxHeartbeats 4000000 in
theorem rpairs (l : List Int) (hb : Byt l) (hl : l.length ≤ 512) (w : World) :
    Calls Tryd.prog 36 #[.string (strOfNums l)] w (PairPost (bytV l) w) := by
  obtain ⟨i0, hi0, hz0, hz1, hz2⟩ := info_parts info5
  have hix := fun k h => index_s (strOfNums l) k (by rw [strOf_size]; exact h) (by rw [strOf_size]; omega)
  rw [sb_str _ hb] at hix
  have hsz := strOf_size l
  have HIX := TW.hide hix
  have HY := TW.hide (bytV_yes l)
  have HN := TW.hide (bytV_no l hb)
  have HT1 : Hid (∀ k, k < l.length → k % 2 = 0 → hal (l.take (k + 1)) = hal (l.take k) ++ [16 * lw (l.getD k 0)]) := fun k hk h => by
    obtain ⟨q, rfl⟩ : ∃ q, k = 2 * q := ⟨k / 2, by omega⟩
    exact hal_take1 l q hk
  have HT2 : Hid (∀ k, k < l.length → k % 2 = 1 → hal (l.take (k + 1)) = hal (l.take (k - 1)) ++ [16 * lw (l.getD (k - 1) 0) + lw (l.getD k 0)] ∧ hal (l.take k) = hal (l.take (k - 1)) ++ [16 * lw (l.getD (k - 1) 0)] ∧ (hal (l.take (k - 1))).length = k / 2) := fun k hk h => by
    obtain ⟨q, rfl⟩ : ∃ q, k = 2 * q + 1 := ⟨k / 2, by omega⟩
    rw [Nat.add_sub_cancel, show (2 * q + 1) / 2 = q by omega]
    exact ⟨hal_take2 l q hk, hal_take1 l q (by omega), hal_len l q (by omega)⟩
  have HBG : Hid (∀ k, 0 ≤ l.getD k 0 ∧ l.getD k 0 < 256) := fun k => hb.get k
  have HTL : Hid (l.take l.length = l) := List.take_length
  clear hix hb
  generalize strOfNums l = s at *
  generalize l.length = n at *
  go_enter Tryd.func36, Tryd.ntmps36
  by_cases h2 : n % 2 = 0
  rotate_left
  · have HNO := TW.hide (HN.out (.inl h2))
    have ht1 : ((n : Int) % 2 != 0) = true := by simp; omega
    have ht2 : ((n : Int).tmod 2) = 1 := by rw [Int.tmod_eq_emod_of_nonneg (by omega)]; omega
    go_wp2
    go_ret2
    rw [HNO.out]
    exact ⟨Below.refl _ _, rfl⟩
  have ht1 : ((n : Int) % 2 != 0) = false := by simp; omega
  have ht2 : ((n : Int).tmod 2) = 0 := by rw [Int.tmod_eq_emod_of_nonneg (by omega)]; omega
  go_wp2
  clear ht1 ht2
  go_loopw [4, 5] (fun v i wr => ∃ k : Nat, k ≤ n ∧ i = .int .i64 k ∧ (∀ j, j < k → lw (l.getD j 0) ≠ -1) ∧ wr.ownsRow w.heap.size 5 1 v ((k + 1) / 2) (vs (hal (l.take k))) ∧ Below w.heap.size w wr) (fun _ i _ => n - (intOf i).toNat)
  case atStart => exact ⟨0, Nat.zero_le _, rfl, fun j h => absurd h (Nat.not_lt_zero _), World.ownsRow_nil _ _ _ _, Below.refl _ _⟩
  case round =>
    obtain ⟨k, hk, rfl, hall, hown, hbel⟩ := hrel
    have HA := TW.hide hall
    have HB := TW.hide hbel
    clear hall hbel
    by_cases hlt : k < n
    · have hi := HIX.out k hlt
      have hb := HBG.out k
      have hkI : (k : Int) < (n : Int) := by omega
      have HST : Hid (lw (l.getD k 0) ≠ -1 → ∀ j, j < k + 1 → lw (l.getD j 0) ≠ -1) := fun hg j hj => by
        rcases Nat.lt_or_eq_of_le (Nat.lt_succ_iff.1 hj) with h' | rfl
        · exact HA.out j h'
        · exact hg
      have HNN : Hid (lw (l.getD k 0) = -1 → bytV l = none) := fun h => HN.out (.inr ⟨k, hlt, h⟩)
      by_cases d1 : 48 ≤ l.getD k 0 ∧ l.getD k 0 ≤ 57
      · obtain ⟨x, hx, x0, x1⟩ : ∃ x, lw (l.getD k 0) = x ∧ 0 ≤ x ∧ x ≤ 15 := ⟨_, rfl, by unfold lw; rw [if_pos d1]; omega, by unfold lw; rw [if_pos d1]; omega⟩
        have hcx : l.getD k 0 - 48 = x := by rw [← hx]; unfold lw; rw [if_pos d1]
        have HX := TW.hide hx
        rw [hx] at HST
        generalize l.getD k 0 = c at hi hb d1 hcx
        obtain ⟨d1, d2⟩ := d1
        have e1 : IntKind.u8.wrap (c - 48) = x := by rw [IntKind.wrap_u8]; omega
        clear hcx hx HNN
        rcases Nat.mod_two_eq_zero_or_one k with hp | hp
        · have ht1 : ((k : Int) % 2 == 0) = true := by simp; omega
          have ht2 : ((k : Int).tmod 2) = 0 := by rw [Int.tmod_eq_emod_of_nonneg (by omega)]; omega
          have HS := TW.hide (HT1.out k hlt hp)
          have e9 : IntKind.u8.wrap (16 * x) = 16 * x := by rw [IntKind.wrap_u8]; omega
          obtain ⟨q, hq⟩ : ∃ q, (k + 1) / 2 = q := ⟨_, rfl⟩
          have HQ : Hid ((k + 1 + 1) / 2 = q + 1) := by show _ = _; omega
          have hq5 : q ≤ 512 := by omega
          rw [hq] at hown
          clear hq hp
          generalize hal (l.take k) = H at *
          go_wp2_with (at_builtin; refine wpList_append_own _ rfl _ _ 24 rfl w.heap.size 5 i0 (.int .u8 0) 1 1 Tryd.underlying24 hi0 hz0 hz1 hz2 rfl (by decide) _ _ _ rfl (hown.alloc _) ⟨wr.heap.size, 0, none⟩ 1 1 [.int .u8 (16 * x)] rfl rfl ?c1 ?c2 ?c3 ?c4 ?c5 ?_)
          try (case c1 => exact one_new _ _)
          case c2 => first | (intro u hu; simp at hu; subst hu; rfl) | rfl
          case c3 => first | (unfold maxLen; omega) | (show _ ≤ maxLen; unfold maxLen; omega)
          case c4 => omega
          case c5 => have := HB.out.size; simp; omega
          intro v' w2 hown' hgrow' _
          have hbel2 : Below w.heap.size w w2 := (HB.out.alloc HB.out.size _).grown hgrow' (by have := HB.out.size; simp; omega) (own_block hown)
          have K1' := TW.hide hown'
          have K2' := TW.hide hbel2
          clear hown hown' hgrow' hbel2
          go_wp2
          go_roundw
          case rel => exact ⟨k + 1, by omega, by go_num, HST.out (by omega), by rw [HS.out, vs_append, HQ.out, HX.out]; exact K1'.out, K2'.out⟩
          case measure => simp [intOf]; omega
        · have ht1 : ((k : Int) % 2 == 0) = false := by simp; omega
          have ht2 : ((k : Int).tmod 2) = 1 := by rw [Int.tmod_eq_emod_of_nonneg (by omega)]; omega
          obtain ⟨HS2, HS1, hlq⟩ := HT2.out k hlt hp
          have hag := HA.out (k - 1) (by omega)
          obtain ⟨_, _, ha0, ha1⟩ := lw_hw hag
          obtain ⟨q, hq⟩ : ∃ q, k / 2 = q := ⟨_, rfl⟩
          have HQ : Hid ((k + 1 + 1) / 2 = q + 1) := by show _ = _; omega
          have hq5 : q ≤ 512 := by omega
          rw [show (k + 1) / 2 = q + 1 by omega, HS1] at hown
          rw [HX.out] at HS2
          rw [hq] at hlq
          clear hq hp
          generalize lw (l.getD (k - 1) 0) = a at *
          generalize hal (l.take (k - 1)) = H at *
          obtain ⟨g, cap, rfl, hgB, hgl⟩ := own_some hown (by omega)
          have hc : wr.cell? ⟨g, q, none⟩ = some (.int .u8 (16 * a)) := by
            rw [hown.cellAt q (by omega), vs_append, List.getElem?_append_right (by rw [vs_length]; omega), vs_length, hlq]; simp [vs]
          have hf := hown.frozenAt q
          have hnew := (hown.stored q (.int .u8 (16 * a + x))).1
          have hset : (vs (H ++ [16 * a])).set q (.int .u8 (16 * a + x)) = vs (H ++ [16 * a + x]) := by
            rw [vs_append, vs_append, List.set_append_right _ _ (by rw [vs_length]; omega), vs_length, hlq]; simp [vs]
          rw [hset] at hnew
          have hbn : Below w.heap.size w (wr.setCell ⟨g, q, none⟩ (.int .u8 (16 * a + x))) := HB.out.setCell hgB _
          have HNEW := TW.hide hnew
          have HBN := TW.hide hbn
          have HS := TW.hide HS2
          have e9 : IntKind.u8.wrap (16 * a + x) = 16 * a + x := by rw [IntKind.wrap_u8]; omega
          clear hnew hbn hown hset HS1 HS2 hlq hag
          go_wp2
          go_roundw
          case rel => exact ⟨k + 1, by omega, by go_num, HST.out (by omega), by rw [HS.out, HQ.out]; exact HNEW.out, HBN.out⟩
          case measure => simp [intOf]; omega
      by_cases d2 : 97 ≤ l.getD k 0 ∧ l.getD k 0 ≤ 102
      · obtain ⟨x, hx, x0, x1⟩ : ∃ x, lw (l.getD k 0) = x ∧ 0 ≤ x ∧ x ≤ 15 := ⟨_, rfl, by unfold lw; rw [if_neg d1, if_pos d2]; omega, by unfold lw; rw [if_neg d1, if_pos d2]; omega⟩
        have hcx : l.getD k 0 - 87 = x := by rw [← hx]; unfold lw; rw [if_neg d1, if_pos d2]
        have HX := TW.hide hx
        rw [hx] at HST
        generalize l.getD k 0 = c at hi hb d1 d2 hcx
        obtain ⟨d2, d3⟩ := d2
        have e0 : ¬ c ≤ 57 := by omega
        have e00 : 48 ≤ c := by omega
        have e1 : IntKind.u8.wrap (c - 97) = c - 97 := by rw [IntKind.wrap_u8]; omega
        have e2 : IntKind.u8.wrap (c - 97 + 10) = x := by rw [IntKind.wrap_u8]; omega
        clear hcx hx HNN d1
        rcases Nat.mod_two_eq_zero_or_one k with hp | hp
        · have ht1 : ((k : Int) % 2 == 0) = true := by simp; omega
          have ht2 : ((k : Int).tmod 2) = 0 := by rw [Int.tmod_eq_emod_of_nonneg (by omega)]; omega
          have HS := TW.hide (HT1.out k hlt hp)
          have e9 : IntKind.u8.wrap (16 * x) = 16 * x := by rw [IntKind.wrap_u8]; omega
          obtain ⟨q, hq⟩ : ∃ q, (k + 1) / 2 = q := ⟨_, rfl⟩
          have HQ : Hid ((k + 1 + 1) / 2 = q + 1) := by show _ = _; omega
          have hq5 : q ≤ 512 := by omega
          rw [hq] at hown
          clear hq hp
          generalize hal (l.take k) = H at *
          go_wp2_with (at_builtin; refine wpList_append_own _ rfl _ _ 24 rfl w.heap.size 5 i0 (.int .u8 0) 1 1 Tryd.underlying24 hi0 hz0 hz1 hz2 rfl (by decide) _ _ _ rfl (hown.alloc _) ⟨wr.heap.size, 0, none⟩ 1 1 [.int .u8 (16 * x)] rfl rfl ?d1 ?d2 ?d3 ?d4 ?d5 ?_)
          try (case d1 => exact one_new _ _)
          case d2 => first | (intro u hu; simp at hu; subst hu; rfl) | rfl
          case d3 => first | (unfold maxLen; omega) | (show _ ≤ maxLen; unfold maxLen; omega)
          case d4 => omega
          case d5 => have := HB.out.size; simp; omega
          intro v' w2 hown' hgrow' _
          have hbel2 : Below w.heap.size w w2 := (HB.out.alloc HB.out.size _).grown hgrow' (by have := HB.out.size; simp; omega) (own_block hown)
          have K1' := TW.hide hown'
          have K2' := TW.hide hbel2
          clear hown hown' hgrow' hbel2
          go_wp2
          go_roundw
          case rel => exact ⟨k + 1, by omega, by go_num, HST.out (by omega), by rw [HS.out, vs_append, HQ.out, HX.out]; exact K1'.out, K2'.out⟩
          case measure => simp [intOf]; omega
        · have ht1 : ((k : Int) % 2 == 0) = false := by simp; omega
          have ht2 : ((k : Int).tmod 2) = 1 := by rw [Int.tmod_eq_emod_of_nonneg (by omega)]; omega
          obtain ⟨HS2, HS1, hlq⟩ := HT2.out k hlt hp
          have hag := HA.out (k - 1) (by omega)
          obtain ⟨_, _, ha0, ha1⟩ := lw_hw hag
          obtain ⟨q, hq⟩ : ∃ q, k / 2 = q := ⟨_, rfl⟩
          have HQ : Hid ((k + 1 + 1) / 2 = q + 1) := by show _ = _; omega
          have hq5 : q ≤ 512 := by omega
          rw [show (k + 1) / 2 = q + 1 by omega, HS1] at hown
          rw [HX.out] at HS2
          rw [hq] at hlq
          clear hq hp
          generalize lw (l.getD (k - 1) 0) = a at *
          generalize hal (l.take (k - 1)) = H at *
          obtain ⟨g, cap, rfl, hgB, hgl⟩ := own_some hown (by omega)
          have hc : wr.cell? ⟨g, q, none⟩ = some (.int .u8 (16 * a)) := by
            rw [hown.cellAt q (by omega), vs_append, List.getElem?_append_right (by rw [vs_length]; omega), vs_length, hlq]; simp [vs]
          have hf := hown.frozenAt q
          have hnew := (hown.stored q (.int .u8 (16 * a + x))).1
          have hset : (vs (H ++ [16 * a])).set q (.int .u8 (16 * a + x)) = vs (H ++ [16 * a + x]) := by
            rw [vs_append, vs_append, List.set_append_right _ _ (by rw [vs_length]; omega), vs_length, hlq]; simp [vs]
          rw [hset] at hnew
          have hbn : Below w.heap.size w (wr.setCell ⟨g, q, none⟩ (.int .u8 (16 * a + x))) := HB.out.setCell hgB _
          have HNEW := TW.hide hnew
          have HBN := TW.hide hbn
          have HS := TW.hide HS2
          have e9 : IntKind.u8.wrap (16 * a + x) = 16 * a + x := by rw [IntKind.wrap_u8]; omega
          clear hnew hbn hown hset HS1 HS2 hlq hag
          go_wp2
          go_roundw
          case rel => exact ⟨k + 1, by omega, by go_num, HST.out (by omega), by rw [HS.out, HQ.out]; exact HNEW.out, HBN.out⟩
          case measure => simp [intOf]; omega
      have HNO := TW.hide (HNN.out (by unfold lw; rw [if_neg d1, if_neg d2]))
      clear HNN HST hown
      generalize l.getD k 0 = c at *
      go_wp2
      all_goals first | (exfalso; omega) | (go_ret2; rw [HNO.out]; exact ⟨HB.out, rfl⟩)
    · obtain rfl : k = n := by omega
      have HYE := TW.hide (HY.out h2 HA.out)
      rw [HTL.out] at hown
      have HOW := TW.hide hown
      have HLL : Hid ((hal l).length = (k + 1) / 2) := by
        have := hown.1
        rw [vs_length] at this
        show _ = _
        omega
      clear hown
      go_wp2
      go_ret2
      rw [HYE.out]
      exact ⟨HB.out, _, rfl, by rw [HLL.out]; exact HOW.out⟩
end LW
end Go.Proofs.YteakoajkmcbilabDoor
namespace Go.Proofs.YteakoajkmcbilabDoor
open Go.RowKit Go.Shelf
set_option linter.unusedVariables false
set_option linter.unusedSimpArgs false
namespace LW
open Words Txt
theorem ckG_of (m m4 : Int) (x : Bool) (s6 s7 : Nat) (d k f dp off xof nd inn : Int) (sl tl : Nat) : (∃ i : Nat, i < 11 ∧ i ≠ 4 ∧ erOf ((i : Int) + 1) = ckG m m4 x s6 s7 d k f dp off xof nd inn sl tl) ∨ ckG m m4 x s6 s7 d k f dp off xof nd inn sl tl = 0 := by
  have key : ckG m m4 x s6 s7 d k f dp off xof nd inn sl tl ∈ [(20 : Int), 8, 21, 22, 23, 24, 25, 26, 27, 28, 0] := by
    unfold ckG
    repeat' split
    all_goals simp
  simp only [List.mem_cons, List.not_mem_nil, or_false] at key
  rcases key with h | h | h | h | h | h | h | h | h | h | h
  · exact .inl ⟨0, by omega, by omega, by rw [h]; rfl⟩
  · exact .inl ⟨1, by omega, by omega, by rw [h]; rfl⟩
  · exact .inl ⟨2, by omega, by omega, by rw [h]; rfl⟩
  · exact .inl ⟨3, by omega, by omega, by rw [h]; rfl⟩
  · exact .inl ⟨5, by omega, by omega, by rw [h]; rfl⟩
  · exact .inl ⟨6, by omega, by omega, by rw [h]; rfl⟩
  · exact .inl ⟨7, by omega, by omega, by rw [h]; rfl⟩
  · exact .inl ⟨8, by omega, by omega, by rw [h]; rfl⟩
  · exact .inl ⟨9, by omega, by omega, by rw [h]; rfl⟩
  · exact .inl ⟨10, by omega, by omega, by rw [h]; rfl⟩
  · exact .inr h
theorem ck_of {kd : Int} (hk : kd = 1 ∨ kd = 2) (p : Pm) (sl tl : Nat) (hE : ¬ p.ck kd sl tl = 0) : ∃ i : Nat, i < 11 ∧ i ≠ 4 ∧ erOf ((i : Int) + 1) = p.ck kd sl tl := by
  unfold Pm.ck LW.ck at hE ⊢
  rcases hk with rfl | rfl
  · rw [if_pos rfl] at hE ⊢
    exact (ckG_of _ _ _ _ _ _ _ _ _ _ _ _ _ _ _).resolve_right hE
  · rw [if_neg (by omega), if_pos rfl] at hE ⊢
    exact (ckG_of _ _ _ _ _ _ _ _ _ _ _ _ _ _ _).resolve_right hE
theorem blame (ats : List Int) (i : Nat) (hi : i < 11) (h4 : i ≠ 4) : blN ats (erOf ((i : Int) + 1)) 11 = ats.getD i 0 ∧ rbl (erOf ((i : Int) + 1)) = (i : Int) + 1 := by
  have : i = 0 ∨ i = 1 ∨ i = 2 ∨ i = 3 ∨ i = 5 ∨ i = 6 ∨ i = 7 ∨ i = 8 ∨ i = 9 ∨ i = 10 := by omega
  rcases this with rfl | rfl | rfl | rfl | rfl | rfl | rfl | rfl | rfl | rfl <;> simp [blN, erOf, rbl]
/-- What the loop of the document's Read keeps. -/
structure Lq (W w : World) (B p g : Nat) (st : Rs) (a1 a2 : Option Addr) (c1 c2 : Nat) : Prop where
  res : W.heap[B]? = some (.cells #[.int .i64 0, .int .i64 0, .int .i64 0, .int .i64 0, .int .u32 0, .int .u64 0, .int .u32 0, .int .i64 0, .int .i64 0, .slice none 0 0, .slice none 0 0] 26 (0, 0))
  non : W.heap[B + 1]? = some (.cells #[.int .i64 0, .int .i64 0, .int .i64 0, .int .i64 0, .int .u32 0, .int .u64 0, .int .u32 0, .int .i64 0, .int .i64 0, .slice none 0 0, .slice none 0 0] 26 (0, 0))
  par : W.heap[p]? = some (.cells (pcP st.q (.slice a1 st.s.length c1) (.slice a2 st.t.length c2)) 26 (0, 0))
  ats : W.heap[g]? = some (.cells ((0 :: st.ats).map (Value.int .i64)).toArray 3 (0, 0))
  s : Pn W (g + 1) a1 c1 st.s
  t : Pn W (g + 1) a2 c2 st.t
  bel : Below B w W
  pg : B + 1 < p ∧ p < g
theorem Lq.below {W W' w : World} {B p g : Nat} {st : Rs} {a1 a2 : Option Addr} {c1 c2 : Nat} (h : Lq W w B p g st a1 a2 c1 c2) (hb : Below W.heap.size W W') : Lq W' w B p g st a1 a2 c1 c2 :=
  ⟨blk_keep h.res hb, blk_keep h.non hb, blk_keep h.par hb, blk_keep h.ats hb, h.s.below hb, h.t.below hb, below_row h.bel hb (by have := blk_lt h.res; omega), h.pg⟩
theorem zero12 : ((0 :: List.replicate 11 (0 : Int)).map (Value.int .i64)).toArray = #[.int .i64 0, .int .i64 0, .int .i64 0, .int .i64 0, .int .i64 0, .int .i64 0, .int .i64 0, .int .i64 0, .int .i64 0, .int .i64 0, .int .i64 0, .int .i64 0] := by simp
theorem rplainU {kd : Int} (hk : kd = 1 ∨ kd = 2) (w : World) : Calls Tryd.prog 33 #[.int .i64 kd, .int .i64 (mo kd), .int .i64 0] w fun e w' => (∃ E, e = .returned (.tuple #[.agg (pcP (usP kd) (.slice none 0 0) (.slice none 0 0)), .int .i64 E])) ∧ Below w.heap.size w w' := by
  have hok : (usP kd).Ok := usP_ok kd
  have hck : (usP kd).ck kd 0 0 = 0 := by rcases hk with rfl | rfl <;> rfl
  have h := rplain kd (mo kd) 0 w 0 (fun W => by
    have := rcheckP kd (usP kd) hok none none 0 0 0 0 W
    rw [hck] at this
    exact this)
  exact h.mono fun e w' h => ⟨⟨_, h.1⟩, h.2⟩
end LW
end Go.Proofs.YteakoajkmcbilabDoor
