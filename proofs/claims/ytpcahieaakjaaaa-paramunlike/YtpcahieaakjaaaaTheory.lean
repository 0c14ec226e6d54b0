/-
  A block says what was laid, and what it says lays the same block.
-/
import Derived.Test.YtpcahieaakjaaaaEncU
namespace Go.Proofs.Ytpcahieaakjaaaa
open Go.RowKit
set_option linter.unusedVariables false
set_option linter.unusedSimpArgs false
namespace LW
open Words
theorem ext_getD {a b : List Int} (h : a.length = b.length) (hg : ∀ i, i < a.length → a.getD i 0 = b.getD i 0) : a = b := by
  apply List.ext_getElem h
  intro i h1 h2
  have := hg i h1
  simpa [List.getD_eq_getElem?_getD, List.getElem?_eq_getElem h1, List.getElem?_eq_getElem h2] using this
theorem getD_ly (z : List Int) (j n : Nat) (v : Int) (i : Nat) (h : j + n ≤ z.length) : (ly z j n v).getD i 0 = if j ≤ i ∧ i < j + n then (un v n).getD (i - j) 0 else z.getD i 0 := by
  have hj : (z.take j).length = j := by simp; omega
  have hu := un_length v n
  unfold ly
  simp only [List.getD_eq_getElem?_getD]
  by_cases h1 : i < j
  · rw [List.getElem?_append_left (by omega), if_neg (by omega), List.getElem?_take, if_pos h1]
  · rw [List.getElem?_append_right (by omega), hj]
    by_cases h2 : i < j + n
    · rw [List.getElem?_append_left (by omega), if_pos ⟨by omega, h2⟩]
    · rw [List.getElem?_append_right (by omega), hu, if_neg (by omega), List.getElem?_drop]
      congr 2
      omega
theorem getD_splice (l s : List Int) (j i : Nat) (h : j + s.length ≤ l.length) : (splice l j s).getD i 0 = if j ≤ i ∧ i < j + s.length then s.getD (i - j) 0 else l.getD i 0 := by
  have hj : (l.take j).length = j := by simp; omega
  unfold splice
  simp only [List.getD_eq_getElem?_getD]
  by_cases h1 : i < j
  · rw [List.getElem?_append_left (by omega), if_neg (by omega), List.getElem?_take, if_pos h1]
  · rw [List.getElem?_append_right (by omega), hj]
    by_cases h2 : i < j + s.length
    · rw [List.getElem?_append_left (by omega), if_pos ⟨by omega, h2⟩]
    · rw [List.getElem?_append_right (by omega), if_neg (by omega), List.getElem?_drop]
      congr 2
      omega
theorem getD_seg (z : List Int) (j n k : Nat) (h : k < n) : ((z.drop j).take n).getD k 0 = z.getD (j + k) 0 := by
  simp [List.getD_eq_getElem?_getD, List.getElem?_take, List.getElem?_drop, h]
theorem le_digit : ∀ (l : List Int) (i : Nat), Byt l → i < l.length → le l / 256 ^ i % 256 = l.getD i 0
  | [], i, _, h => by simp at h
  | z :: l, 0, hb, _ => by
    have hz := hb.cons.1
    simp only [le, Int.pow_zero, Int.ediv_one]
    show (z + 256 * le l) % 256 = z
    omega
  | z :: l, i + 1, hb, h => by
    have hz := hb.cons.1
    have ih := le_digit l i hb.cons.2 (by simpa using h)
    have e : le (z :: l) / 256 ^ (i + 1) = le l / 256 ^ i := by
      rw [Int.pow_succ, Int.mul_comm, ← Int.ediv_ediv_of_nonneg (by decide)]
      congr 1
      show (z + 256 * le l) / 256 = le l
      omega
    rw [e, ih]
    rfl
theorem un_le_getD (l : List Int) (n i : Nat) (hb : Byt l) (hl : l.length = n) (hi : i < n) : (un (le l) n).getD i 0 = l.getD i 0 := by
  rw [un_getD _ _ _ hi, le_digit l i hb (by omega)]
/-- Where a field stands in a form. -/
def fa (kd : Int) (f : Nat) : Nat := (rAt kd (f : Int)).toNat
def fs (kd : Int) (x : Bool) (f : Nat) : Nat := (pSz kd (f : Int) x).toNat
theorem spans (kd : Int) (x : Bool) (hk : kd = 1 ∨ kd = 2) : (∀ f, f < 10 → ∀ g, g < 10 → 1 ≤ f → f < g → fs kd x g = 0 ∨ fa kd f + fs kd x f ≤ fa kd g) ∧ (∀ f, f < 10 → 1 ≤ f → fa kd f + fs kd x f ≤ (if kd = 1 then 18 else 16)) ∧
    (∀ i, i < (if kd = 1 then 18 else 16) → ∃ f, f < 10 ∧ 1 ≤ f ∧ fa kd f ≤ i ∧ i < fa kd f + fs kd x f) := by
  rcases hk with rfl | rfl <;> cases x <;> decide
theorem enP_succ (kd : Int) (p : Pm) (k : Nat) : enP kd p (k + 1) = ly (enP kd p k) (fa kd (k + 1)) (fs kd (p.xof != 0) (k + 1)) (p.nv ((k + 1 : Nat) : Int)) := rfl
theorem enP_fit (kd : Int) (p : Pm) (hk : kd = 1 ∨ kd = 2) (k : Nat) (h : k ≤ 8) : fa kd (k + 1) + fs kd (p.xof != 0) (k + 1) ≤ (enP kd p k).length := by
  obtain ⟨_, _, _, hl, _⟩ := pFits kd ((k + 1 : Nat) : Int) (p.xof != 0) hk (by omega) (by omega)
  rw [enP_length kd p hk k (by omega)]
  unfold fa fs
  omega
/-- Outside all fields there are noughts. -/
theorem enP_zero (kd : Int) (p : Pm) (hk : kd = 1 ∨ kd = 2) : ∀ (k i : Nat), k ≤ 9 → (∀ f, 1 ≤ f → f ≤ k → ¬ (fa kd f ≤ i ∧ i < fa kd f + fs kd (p.xof != 0) f)) → (enP kd p k).getD i 0 = 0
  | 0, i, _, _ => by
    simp only [enP, List.getD_eq_getElem?_getD, List.getElem?_replicate]
    split <;> rfl
  | k + 1, i, h, hn => by
    rw [enP_succ, getD_ly _ _ _ _ _ (enP_fit kd p hk k (by omega)), if_neg (hn (k + 1) (by omega) (Nat.le_refl _))]
    exact enP_zero kd p hk k i (by omega) (fun f h1 h2 => hn f h1 (by omega))
/-- In a field there is its number. -/
theorem enP_field (kd : Int) (p : Pm) (hk : kd = 1 ∨ kd = 2) : ∀ (k f i : Nat), k ≤ 9 → 1 ≤ f → f ≤ k → i < fs kd (p.xof != 0) f → (enP kd p k).getD (fa kd f + i) 0 = (un (p.nv (f : Int)) (fs kd (p.xof != 0) f)).getD i 0
  | 0, f, i, _, h1, h2, _ => by omega
  | k + 1, f, i, h, h1, h2, hi => by
    rw [enP_succ, getD_ly _ _ _ _ _ (enP_fit kd p hk k (by omega))]
    by_cases hf : f = k + 1
    · subst hf
      rw [if_pos ⟨by omega, by omega⟩, Nat.add_sub_cancel_left]
    · obtain ⟨hd, _, _⟩ := spans kd (p.xof != 0) hk
      have := hd f (by omega) (k + 1) (by omega) h1 (by omega)
      rw [if_neg (by omega)]
      exact enP_field kd p hk k f i (by omega) h1 (by omega) hi
theorem tr_zero (s : List Int) (k : Nat) (h1 : (tr s).length ≤ k) (h2 : k < s.length) : s.getD k 0 = 0 := by
  rw [tr_length] at h1
  have : ∀ n, k < n → tn s n ≤ k → s.getD k 0 = 0 := by
    intro n
    induction n with
    | zero => intro h; omega
    | succ n ih =>
      intro h hl
      unfold tn at hl
      split at hl
      · rename_i hz
        rcases Nat.lt_or_ge k n with h' | h'
        · exact ih h' hl
        · obtain rfl : k = n := by omega
          exact hz
      · omega
  exact this s.length h2 h1
theorem tn_agree (l s : List Int) : ∀ n, (∀ i, i < n → l.getD i 0 = s.getD i 0) → tn l n = tn s n
  | 0, _ => rfl
  | n + 1, h => by
    unfold tn
    rw [h n (by omega), tn_agree l s n (fun i hi => h i (by omega))]
theorem tn_pad (l : List Int) (m : Nat) : ∀ d, (∀ i, m ≤ i → i < m + d → l.getD i 0 = 0) → tn l (m + d) = tn l m
  | 0, _ => rfl
  | d + 1, h => by
    rw [show tn l (m + (d + 1)) = (if l.getD (m + d) 0 = 0 then tn l (m + d) else m + d + 1) from rfl, if_pos (h (m + d) (by omega) (by omega))]
    exact tn_pad l m d (fun i h1 h2 => h i h1 (by omega))
/-- Noughts at the end do not count. -/
theorem tr_pad (l s : List Int) (h : ∀ i, l.getD i 0 = s.getD i 0) (hl : s.length ≤ l.length) : tr l = tr s := by
  have e : tn l l.length = tn s s.length := by
    obtain ⟨d, hd⟩ : ∃ d, l.length = s.length + d := ⟨l.length - s.length, by omega⟩
    rw [hd, tn_pad l s.length d (fun i h1 _ => by rw [h i, List.getD_eq_getElem?_getD, List.getElem?_eq_none h1]; rfl), tn_agree l s s.length (fun i _ => h i)]
  apply ext_getD
  · rw [tr_length, tr_length, e]
  · intro i hi
    have hi2 : i < (tr s).length := by rw [tr_length] at hi ⊢; omega
    rw [take_take_tr l i hi, take_take_tr s i hi2, h i]
/-- The sizes of a kind. -/
theorem kind_nums (kd : Int) (hk : kd = 1 ∨ kd = 2) : (kd = 1 ∧ (mo kd).toNat = 64 ∧ (mo kd / 4).toNat = 16 ∧ (if kd = 1 then 18 else 16 : Nat) = 18) ∨ (kd = 2 ∧ (mo kd).toNat = 32 ∧ (mo kd / 4).toNat = 8 ∧ (if kd = 1 then 18 else 16 : Nat) = 16) := by
  rcases hk with rfl | rfl
  · exact .inl ⟨rfl, rfl, rfl, rfl⟩
  · exact .inr ⟨rfl, rfl, rfl, rfl⟩
theorem enL_getD (kd : Int) (p : Pm) (s t : List Int) (hk : kd = 1 ∨ kd = 2) (hs : s.length ≤ (mo kd / 4).toNat) (ht : t.length ≤ (mo kd / 4).toNat) (i : Nat) :
    (enL kd p s t).getD i 0 = if 3 * (mo kd / 4).toNat ≤ i ∧ i < 3 * (mo kd / 4).toNat + t.length then t.getD (i - 3 * (mo kd / 4).toNat) 0 else
      if 2 * (mo kd / 4).toNat ≤ i ∧ i < 2 * (mo kd / 4).toNat + s.length then s.getD (i - 2 * (mo kd / 4).toNat) 0 else (enP kd p 9).getD i 0 := by
  have h9 := enP_length kd p hk 9 (by omega)
  have hn := kind_nums kd hk
  unfold enL
  rw [getD_splice _ _ _ _ (by rw [length_splice _ _ _ (by omega)]; omega), getD_splice _ _ _ _ (by omega)]
theorem getD_past (l : List Int) (i : Nat) (h : l.length ≤ i) : l.getD i 0 = 0 := by
  rw [List.getD_eq_getElem?_getD, List.getElem?_eq_none h]; rfl
/-- The numbers have room in their fields. -/
theorem nv_fits {kd : Int} {p : Pm} (hp : p.Ok) {sl tl : Nat} (h : p.ck kd sl tl = 0) (f : Nat) (h1 : 1 ≤ f) (h9 : f ≤ 9) : 0 ≤ p.nv (f : Int) ∧ p.nv (f : Int) < 256 ^ fs kd (p.xof != 0) f := by
  have hm := may_of_ck h
  have h0 := (nv_bd p hp hm (f : Int)).1
  refine ⟨h0, ?_⟩
  obtain ⟨o0, o1, x0, x1, l0, l1⟩ := hp
  have hf : f = 1 ∨ f = 2 ∨ f = 3 ∨ f = 4 ∨ f = 5 ∨ f = 6 ∨ f = 7 ∨ f = 8 ∨ f = 9 := by omega
  unfold Pm.ck at h
  obtain ⟨d0, d1, k0, k1, f0, f1, e0, e1, n0, n1, i0, i1⟩ := hm
  rcases ck_kind h with rfl | rfl
  · simp only [LW.ck, if_true] at h
    have hg := ckG_may h
    obtain ⟨_, _, _, _, _, _, _, _, _, _, _, _, _, g6, g7, _⟩ := hg
    cases hx : p.xof != 0 with
    | true =>
      have hx0 : ¬ p.xof = 0 := by simpa using hx
      simp only [hx0, if_false] at g6 g7
      rcases hf with rfl | rfl | rfl | rfl | rfl | rfl | rfl | rfl | rfl
      all_goals simp [Pm.nv, LW.nv, fs, pSz, rSz]
      all_goals omega
    | false =>
      have hx0 : p.xof = 0 := by simpa using hx
      simp only [hx0, if_true] at g6 g7
      rcases hf with rfl | rfl | rfl | rfl | rfl | rfl | rfl | rfl | rfl
      all_goals simp [Pm.nv, LW.nv, fs, pSz, rSz]
      all_goals omega
  · simp only [LW.ck, if_true, show ((2 : Int) = 1) = False by simp, if_false] at h
    have hg := ckG_may h
    obtain ⟨_, _, _, _, _, _, _, _, _, _, _, _, _, g6, g7, _⟩ := hg
    cases hx : p.xof != 0 with
    | true =>
      have hx0 : ¬ p.xof = 0 := by simpa using hx
      simp only [hx0, if_false] at g6 g7
      rcases hf with rfl | rfl | rfl | rfl | rfl | rfl | rfl | rfl | rfl
      all_goals simp [Pm.nv, LW.nv, fs, pSz, rSz]
      all_goals omega
    | false =>
      have hx0 : p.xof = 0 := by simpa using hx
      simp only [hx0, if_true] at g6 g7
      rcases hf with rfl | rfl | rfl | rfl | rfl | rfl | rfl | rfl | rfl
      all_goals simp [Pm.nv, LW.nv, fs, pSz, rSz]
      all_goals omega
/-- THERE AND BACK: the block of parameters says these numbers, in their own form. -/
theorem dec_enc {kd : Int} {p : Pm} (hp : p.Ok) {s t : List Int} (h : p.ck kd s.length t.length = 0) : dP kd (p.xof != 0) (enL kd p s t) = p := by
  have hk := ck_kind h
  have hsl := ck_salts h
  have hn := kind_nums kd hk
  obtain ⟨_, hbd, _⟩ := spans kd (p.xof != 0) hk
  have hL := enL_length kd p s t h
  apply nv_all
  intro j h1 h9
  obtain ⟨f, rfl⟩ := Int.eq_ofNat_of_zero_le (show (0 : Int) ≤ j by omega)
  rw [dP_nv kd _ _ _ h1 h9]
  have hf := nv_fits hp h f (by omega) (by omega)
  have hb := hbd f (by omega) (by omega)
  show le (((enL kd p s t).drop (fa kd f)).take (fs kd (p.xof != 0) f)) = _
  have hseg : ((enL kd p s t).drop (fa kd f)).take (fs kd (p.xof != 0) f) = un (p.nv (f : Int)) (fs kd (p.xof != 0) f) := by
    apply ext_getD
    · rw [un_length, sub_length _ _ _ (by omega)]
    · intro i hi
      rw [sub_length _ _ _ (by omega)] at hi
      rw [getD_seg _ _ _ _ hi, enL_getD kd p s t hk hsl.1 hsl.2, if_neg (by omega), if_neg (by omega)]
      exact enP_field kd p hk 9 f i (by omega) (by omega) (by omega) hi
  rw [hseg]
  exact le_un _ _ hf.1 hf.2
theorem sal_enc {kd : Int} {p : Pm} {s t : List Int} (h : p.ck kd s.length t.length = 0) : tr (saL kd (enL kd p s t)) = tr s ∧ tr (peL kd (enL kd p s t)) = tr t ∧ (tr (idl kd (enL kd p s t))).length = 0 := by
  have hk := ck_kind h
  have hsl := ck_salts h
  have hn := kind_nums kd hk
  obtain ⟨_, hbd, _⟩ := spans kd (p.xof != 0) hk
  have hL := enL_length kd p s t h
  have hz : ∀ i, (if kd = 1 then 18 else 16 : Nat) ≤ i → (enP kd p 9).getD i 0 = 0 := fun i hi => enP_zero kd p hk 9 i (by omega) (fun f h1 h2 hc => by have := hbd f (by omega) h1; omega)
  have ha : (saL kd (enL kd p s t)).length = (mo kd / 4).toNat := sub_length _ _ _ (by omega)
  have hb : (peL kd (enL kd p s t)).length = (mo kd / 4).toNat := sub_length _ _ _ (by omega)
  refine ⟨tr_pad _ _ (fun i => ?_) (by omega), tr_pad _ _ (fun i => ?_) (by omega), ?_⟩
  · rcases Nat.lt_or_ge i (mo kd / 4).toNat with hi | hi
    · unfold saL
      rw [getD_seg _ _ _ _ hi, enL_getD kd p s t hk hsl.1 hsl.2, if_neg (by omega)]
      by_cases h2 : i < s.length
      · rw [if_pos (by omega), Nat.add_sub_cancel_left]
      · rw [if_neg (by omega), getD_past s i (by omega)]
        exact hz _ (by omega)
    · rw [getD_past _ i (by omega), getD_past s i (by omega)]
  · rcases Nat.lt_or_ge i (mo kd / 4).toNat with hi | hi
    · unfold peL
      rw [getD_seg _ _ _ _ hi, enL_getD kd p s t hk hsl.1 hsl.2]
      by_cases h2 : i < t.length
      · rw [if_pos (by omega), Nat.add_sub_cancel_left]
      · rw [if_neg (by omega), if_neg (by omega), getD_past t i (by omega)]
        exact hz _ (by omega)
    · rw [getD_past _ i (by omega), getD_past t i (by omega)]
  · rcases hn with ⟨rfl, h64, h16, h18⟩ | ⟨rfl, _⟩
    · rw [tr_length, idl_len _ (by omega), tn_zero]
      intro i hi
      rw [idl_getD _ i hi, enL_getD 1 p s t hk hsl.1 hsl.2, if_neg (by omega), if_neg (by omega)]
      exact hz _ (by omega)
    · rfl
/-- BACK AND THERE: what a block says lays the same block. -/
theorem enc_dec {kd : Int} {x : Bool} {B : List Int} (hk : kd = 1 ∨ kd = 2) (hB : Byt B) (hl : B.length = (mo kd).toNat) (hi : (tr (idl kd B)).length = 0) (hx : ((dP kd x B).xof != 0) = x) :
    enL kd (dP kd x B) (tr (saL kd B)) (tr (peL kd B)) = B := by
  have hn := kind_nums kd hk
  obtain ⟨_, hbd, hcov⟩ := spans kd x hk
  have ha : (saL kd B).length = (mo kd / 4).toNat := sub_length _ _ _ (by omega)
  have hb : (peL kd B).length = (mo kd / 4).toNat := sub_length _ _ _ (by omega)
  have ha' := tr_le (saL kd B)
  have hb' := tr_le (peL kd B)
  have h9 := enP_length kd (dP kd x B) hk 9 (by omega)
  have hlen : (enL kd (dP kd x B) (tr (saL kd B)) (tr (peL kd B))).length = B.length := by
    unfold enL
    rw [length_splice _ _ _ (by rw [length_splice _ _ _ (by omega)]; omega), length_splice _ _ _ (by omega), h9, hl]
  have hP : ∀ i, i < (if kd = 1 then 18 else 16 : Nat) → (enP kd (dP kd x B) 9).getD i 0 = B.getD i 0 := fun i hi => by
    obtain ⟨f, hf, h1, h2, h3⟩ := hcov i hi
    obtain ⟨r, rfl⟩ : ∃ r, i = fa kd f + r := ⟨i - fa kd f, by omega⟩
    have hfb := hbd f hf h1
    have := enP_field kd (dP kd x B) hk 9 f r (by omega) h1 (by omega) (by rw [hx]; omega)
    rw [hx, dP_nv kd x B f (by omega) (by omega)] at this
    rw [this]
    show (un (le ((B.drop (fa kd f)).take (fs kd x f))) (fs kd x f)).getD r 0 = _
    rw [un_le_getD _ _ _ ((hB.drop _).take _) (sub_length _ _ _ (by omega)) (by omega), getD_seg _ _ _ _ (by omega)]
  have hZ : ∀ i, (if kd = 1 then 18 else 16 : Nat) ≤ i → (enP kd (dP kd x B) 9).getD i 0 = 0 := fun i hi => enP_zero kd (dP kd x B) hk 9 i (by omega) (fun f h1 h2 hc => by rw [hx] at hc; have := hbd f (by omega) h1; omega)
  apply ext_getD hlen
  intro i hi'
  rw [hlen, hl] at hi'
  rw [enL_getD kd _ _ _ hk (by omega) (by omega)]
  by_cases c3 : 3 * (mo kd / 4).toNat ≤ i
  · have e : B.getD i 0 = (peL kd B).getD (i - 3 * (mo kd / 4).toNat) 0 := by
      unfold peL
      rw [getD_seg _ _ _ _ (by omega)]
      congr 1; omega
    by_cases c4 : i < 3 * (mo kd / 4).toNat + (tr (peL kd B)).length
    · rw [if_pos ⟨c3, c4⟩, take_take_tr _ _ (by omega), e]
    · rw [if_neg (by omega), if_neg (by omega), hZ i (by omega), e]
      exact (tr_zero _ _ (by omega) (by omega)).symm
  · rw [if_neg (by omega)]
    by_cases c2 : 2 * (mo kd / 4).toNat ≤ i
    · have e : B.getD i 0 = (saL kd B).getD (i - 2 * (mo kd / 4).toNat) 0 := by
        unfold saL
        rw [getD_seg _ _ _ _ (by omega)]
        congr 1; omega
      by_cases c4 : i < 2 * (mo kd / 4).toNat + (tr (saL kd B)).length
      · rw [if_pos ⟨c2, c4⟩, take_take_tr _ _ (by omega), e]
      · rw [if_neg (by omega), hZ i (by omega), e]
        exact (tr_zero _ _ (by omega) (by omega)).symm
    · rw [if_neg (by omega)]
      by_cases c1 : i < (if kd = 1 then 18 else 16 : Nat)
      · exact hP i c1
      · rcases hn with ⟨rfl, h64, h16, h18⟩ | ⟨rfl, h32, h8, h16⟩
        · rw [hZ i (by omega)]
          rw [tr_length, idl_len _ (by omega), tn_zero] at hi
          have := hi (i - 18) (by omega)
          rw [idl_getD _ _ (by omega), show 18 + (i - 18) = i by omega] at this
          exact this.symm
        · omega
end LW
end Go.Proofs.Ytpcahieaakjaaaa
