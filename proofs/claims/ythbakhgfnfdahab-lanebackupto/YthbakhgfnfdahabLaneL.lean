/-
  Plain facts on bytes dealt out over lanes: where each byte goes, and back (no Go in sight).
-/
import Derived.Test.YthbakhgfnfdahabWords
namespace Go.Proofs.Ythbakhgfnfdahab
set_option linter.unusedSimpArgs false
namespace LW
/-- The two ways of dealing out: so many lanes, blocks of so many bytes. -/
def KB (n B : Nat) : Prop := (n = 4 ∧ B = 128) ∨ (n = 8 ∧ B = 64)
/-- How many of T bytes are dealt to lane l. -/
def cnt (B l T : Nat) : Nat := T / 512 * B + min (T % 512 - l * B) B
/-- Where byte j of lane l stands in the message. -/
def pos (B l j : Nat) : Nat := j / B * 512 + l * B + j % B
/-- As the how many-th byte of its lane byte i of the message comes. -/
def idx (B i : Nat) : Nat := i / 512 * B + i % B
theorem pos_lt {n B l j T : Nat} (h : KB n B) (hl : l < n) : j < cnt B l T ↔ pos B l j < T := by
  rcases h with ⟨rfl, rfl⟩ | ⟨rfl, rfl⟩ <;> unfold cnt pos <;> omega
theorem lof_pos {n B l j : Nat} (h : KB n B) (hl : l < n) : pos B l j / B % n = l := by
  rcases h with ⟨rfl, rfl⟩ | ⟨rfl, rfl⟩ <;> unfold pos <;> omega
theorem idx_pos {n B l j : Nat} (h : KB n B) (hl : l < n) : idx B (pos B l j) = j := by
  rcases h with ⟨rfl, rfl⟩ | ⟨rfl, rfl⟩ <;> unfold pos idx <;> omega
theorem pos_idx {n B i : Nat} (h : KB n B) : pos B (i / B % n) (idx B i) = i := by
  rcases h with ⟨rfl, rfl⟩ | ⟨rfl, rfl⟩ <;> unfold pos idx <;> omega
theorem cnt_lof {n B T : Nat} (h : KB n B) : cnt B (T / B % n) T = idx B T := by
  rcases h with ⟨rfl, rfl⟩ | ⟨rfl, rfl⟩ <;> unfold cnt idx <;> omega
theorem cnt_succ {n B T : Nat} (h : KB n B) : cnt B (T / B % n) (T + 1) = cnt B (T / B % n) T + 1 := by
  rcases h with ⟨rfl, rfl⟩ | ⟨rfl, rfl⟩ <;> unfold cnt <;> omega
theorem cnt_other {n B l T : Nat} (h : KB n B) (hl : l < n) (hne : l ≠ T / B % n) : cnt B l (T + 1) = cnt B l T := by
  rcases h with ⟨rfl, rfl⟩ | ⟨rfl, rfl⟩ <;> unfold cnt <;> omega
theorem cnt_le {n B l T : Nat} (h : KB n B) : cnt B l T ≤ T := by
  rcases h with ⟨rfl, rfl⟩ | ⟨rfl, rfl⟩ <;> unfold cnt <;> omega
theorem cnt_mono {n B l S T : Nat} (h : KB n B) (hST : S ≤ T) : cnt B l S ≤ cnt B l T := by
  rcases h with ⟨rfl, rfl⟩ | ⟨rfl, rfl⟩ <;> unfold cnt <;> omega
theorem cnt_zero (B l : Nat) : cnt B l 0 = 0 := by simp [cnt]
/-- A sum over lanes. -/
def sumN (f : Nat → Nat) : Nat → Nat
  | 0 => 0
  | n + 1 => sumN f n + f n
theorem cnt_sum {n B T : Nat} (h : KB n B) : sumN (fun l => cnt B l T) n = T := by
  rcases h with ⟨rfl, rfl⟩ | ⟨rfl, rfl⟩ <;> simp only [sumN, cnt] <;> omega
theorem sumN_le {f g : Nat → Nat} {n : Nat} (h : ∀ l, l < n → f l ≤ g l) : sumN f n ≤ sumN g n := by
  induction n with
  | zero => exact Nat.le_refl _
  | succ n ih => have := ih (fun l hl => h l (by omega)); have := h n (by omega); simp only [sumN]; omega
theorem sumN_eq {f g : Nat → Nat} {n : Nat} (h : ∀ l, l < n → f l ≤ g l) (he : sumN f n = sumN g n) : ∀ l, l < n → f l = g l := by
  induction n with
  | zero => intro l hl; omega
  | succ n ih =>
    intro l hl
    have h1 := sumN_le (f := f) (g := g) (n := n) (fun l hl => h l (by omega))
    have h2 := h n (by omega)
    simp only [sumN] at he
    by_cases e : l = n
    · subst e; omega
    · exact ih (fun l hl => h l (by omega)) (by omega) l (by omega)
theorem sumN_congr {f g : Nat → Nat} {n : Nat} (h : ∀ l, l < n → f l = g l) : sumN f n = sumN g n := by
  induction n with
  | zero => rfl
  | succ n ih => simp only [sumN]; rw [ih (fun l hl => h l (by omega)), h n (by omega)]
theorem sumN_get (f : Nat → Nat) (n l : Nat) (hl : l < n) : f l ≤ sumN f n := by
  induction n with
  | zero => omega
  | succ n ih =>
    simp only [sumN]
    by_cases e : l = n
    · subst e; omega
    · have := ih (by omega); omega
theorem sumN_mono (f : Nat → Nat) {a b : Nat} (h : a ≤ b) : sumN f a ≤ sumN f b := by
  induction b with
  | zero => obtain rfl : a = 0 := by omega
            exact Nat.le_refl _
  | succ b ih =>
    by_cases e : a = b + 1
    · subst e; exact Nat.le_refl _
    · have := ih (by omega); simp only [sumN]; omega
/-- Lane l's bytes. -/
def laL (B : Nat) (zs : List Int) (l : Nat) : List Int := (List.range (cnt B l zs.length)).map fun j => zs.getD (pos B l j) 0
theorem laL_length (B : Nat) (zs : List Int) (l : Nat) : (laL B zs l).length = cnt B l zs.length := by simp [laL]
theorem laL_get {B l j : Nat} {zs : List Int} (hj : j < cnt B l zs.length) : (laL B zs l)[j]? = some (zs.getD (pos B l j) 0) := by
  simp [laL, hj]
theorem ext_get {a b : List Int} (h : a.length = b.length) (h2 : ∀ i, i < a.length → a[i]? = b[i]?) : a = b := by
  apply List.ext_getElem?
  intro i
  by_cases hi : i < a.length
  · exact h2 i hi
  · rw [List.getElem?_eq_none (by omega), List.getElem?_eq_none (by omega)]
theorem get_getD {zs : List Int} {i : Nat} (h : i < zs.length) : zs[i]? = some (zs.getD i 0) := by
  simp [List.getD_eq_getElem?_getD, List.getElem?_eq_getElem h]
theorem getD_take {zs : List Int} {i k : Nat} (h : i < k) : (zs.take k).getD i 0 = zs.getD i 0 := by
  simp [List.getD_eq_getElem?_getD, List.getElem?_take, h]
/-- One byte more of the message: its lane has it at its end. -/
theorem laL_succ {n B i : Nat} {zs : List Int} (h : KB n B) (hi : i < zs.length) : laL B (zs.take (i + 1)) (i / B % n) = laL B (zs.take i) (i / B % n) ++ [zs.getD i 0] := by
  have l1 : (zs.take (i + 1)).length = i + 1 := by simp; omega
  have l2 : (zs.take i).length = i := by simp; omega
  have hn : i / B % n < n := Nat.mod_lt _ (by rcases h with ⟨rfl, _⟩ | ⟨rfl, _⟩ <;> omega)
  have hc := cnt_succ (T := i) h
  have hx := cnt_lof (T := i) h
  have hp := pos_idx (i := i) h
  refine ext_get (by simp [laL_length, l1, l2, hc]) fun j hj => ?_
  rw [laL_length, l1, hc] at hj
  rw [laL_get (by rw [l1, hc]; exact hj)]
  by_cases e : j < cnt B (i / B % n) i
  · rw [List.getElem?_append_left (by rw [laL_length, l2]; exact e), laL_get (by rw [l2]; exact e)]
    have := (pos_lt (T := i) h hn).1 e
    rw [getD_take (by omega), getD_take this]
  · obtain rfl : j = cnt B (i / B % n) i := by omega
    rw [List.getElem?_append_right (by rw [laL_length, l2]; exact Nat.le_refl _), laL_length, l2, Nat.sub_self, hx, hp, getD_take (by omega)]
    rfl
theorem laL_other {n B i l : Nat} {zs : List Int} (h : KB n B) (hi : i < zs.length) (hl : l < n) (hne : l ≠ i / B % n) : laL B (zs.take (i + 1)) l = laL B (zs.take i) l := by
  have l1 : (zs.take (i + 1)).length = i + 1 := by simp; omega
  have l2 : (zs.take i).length = i := by simp; omega
  have hc := cnt_other h hl hne
  refine ext_get (by simp [laL_length, l1, l2, hc]) fun j hj => ?_
  rw [laL_length, l1, hc] at hj
  rw [laL_get (by rw [l1, hc]; exact hj), laL_get (by rw [l2]; exact hj)]
  have := (pos_lt (T := i) h hl).1 hj
  rw [getD_take (by omega), getD_take this]
theorem laL_none (B l : Nat) (zs : List Int) : laL B (zs.take 0) l = [] := by simp [laL, cnt]
/-- A block more of lane l. -/
theorem laL_block {n B r l : Nat} {zs : List Int} (h : KB n B) (hl : l < n) : (laL B zs l).take ((r + 1) * B) = (laL B zs l).take (r * B) ++ (zs.drop (l * B + 512 * r)).take B := by
  have hc : min ((r + 1) * B) (cnt B l zs.length) = min (r * B) (cnt B l zs.length) + min B (zs.length - (l * B + 512 * r)) := by
    rcases h with ⟨rfl, rfl⟩ | ⟨rfl, rfl⟩ <;> unfold cnt <;> omega
  refine ext_get (by simp [laL_length]; exact hc) fun j hj => ?_
  simp only [List.length_take, laL_length] at hj
  rw [List.getElem?_take, if_pos (by omega), laL_get (by omega)]
  by_cases e : j < r * B
  · rw [List.getElem?_append_left (by simp [laL_length]; omega), List.getElem?_take, if_pos e, laL_get (by omega)]
  · have hp := (pos_lt (T := zs.length) h hl).1 (show j < cnt B l zs.length by omega)
    have hq : pos B l j = l * B + 512 * r + (j - r * B) := by
      rcases h with ⟨rfl, rfl⟩ | ⟨rfl, rfl⟩ <;> unfold pos <;> omega
    have hm : r * B ≤ cnt B l zs.length := by omega
    have hjB : j - r * B < B := by
      rw [Nat.add_mul, Nat.one_mul] at hj; omega
    rw [List.getElem?_append_right (by simp [laL_length]; omega), List.length_take, laL_length, Nat.min_eq_left hm, List.getElem?_take, if_pos hjB, List.getElem?_drop, ← hq, get_getD hp]
theorem laL_end {n B r l : Nat} {zs : List Int} (h : KB n B) (hl : l < n) (hr : zs.length ≤ l * B + 512 * r) : (laL B zs l).take (r * B) = laL B zs l := by
  refine List.take_of_length_le ?_
  rw [laL_length]
  rcases h with ⟨rfl, rfl⟩ | ⟨rfl, rfl⟩ <;> unfold cnt <;> omega
theorem cnt_block {n B r l T : Nat} (h : KB n B) (hl : l < n) (hr : l * B + 512 * r < T) : r * B < cnt B l T ∧ min ((r + 1) * B) (cnt B l T) = r * B + min B (T - (l * B + 512 * r)) := by
  rcases h with ⟨rfl, rfl⟩ | ⟨rfl, rfl⟩ <;> unfold cnt <;> omega
/-- The message of lanes. -/
def joL (n B : Nat) (ls : Nat → List Int) (T : Nat) : List Int := (List.range T).map fun i => (ls (i / B % n)).getD (idx B i) 0
theorem joL_length (n B : Nat) (ls : Nat → List Int) (T : Nat) : (joL n B ls T).length = T := by simp [joL]
theorem joL_get {n B T i : Nat} {ls : Nat → List Int} (hi : i < T) : (joL n B ls T)[i]? = some ((ls (i / B % n)).getD (idx B i) 0) := by simp [joL, hi]
theorem joL_succ (n B T : Nat) (ls : Nat → List Int) : joL n B ls (T + 1) = joL n B ls T ++ [(ls (T / B % n)).getD (idx B T) 0] := by
  simp [joL, List.range_succ]
/-- These are the lanes of some message. -/
def Dealt (n B : Nat) (ls : Nat → List Int) : Prop := ∀ l, l < n → (ls l).length = cnt B l (sumN (fun l => (ls l).length) n)
theorem lof_lt {n B i : Nat} (h : KB n B) : i / B % n < n := Nat.mod_lt _ (by rcases h with ⟨rfl, _⟩ | ⟨rfl, _⟩ <;> omega)
theorem dealt_iff {n B : Nat} {ls : Nat → List Int} (h : KB n B) : Dealt n B ls ↔ ∀ i, i < sumN (fun l => (ls l).length) n → cnt B (i / B % n) i < (ls (i / B % n)).length := by
  constructor
  · intro hd i hi
    rw [hd _ (lof_lt h), cnt_lof h]
    refine (pos_lt h (lof_lt h)).2 ?_
    rw [pos_idx h]; exact hi
  · intro ha
    have hle : ∀ l, l < n → cnt B l (sumN (fun l => (ls l).length) n) ≤ (ls l).length := by
      intro l hl
      rcases Nat.eq_zero_or_pos (cnt B l (sumN (fun l => (ls l).length) n)) with e | e
      · omega
      · have h1 := (pos_lt (j := cnt B l (sumN (fun l => (ls l).length) n) - 1) (T := sumN (fun l => (ls l).length) n) h hl).1 (by omega)
        have h2 := ha _ h1
        rw [cnt_lof h, idx_pos h hl, lof_pos h hl] at h2
        omega
    intro l hl
    exact (sumN_eq (f := fun l => cnt B l (sumN (fun l => (ls l).length) n)) (g := fun l => (ls l).length) hle (cnt_sum h) l hl).symm
theorem joL_laL {n B : Nat} {zs : List Int} (h : KB n B) : joL n B (laL B zs) zs.length = zs := by
  refine ext_get (joL_length _ _ _ _) fun i hi => ?_
  rw [joL_length] at hi
  rw [joL_get hi, get_getD hi]
  have h1 : idx B i < cnt B (i / B % n) zs.length := (pos_lt h (lof_lt h)).2 (by rw [pos_idx h]; exact hi)
  rw [List.getD_eq_getElem?_getD, laL_get h1, pos_idx h]; rfl
theorem laL_joL {n B l : Nat} {ls : Nat → List Int} (h : KB n B) (hd : Dealt n B ls) (hl : l < n) : laL B (joL n B ls (sumN (fun l => (ls l).length) n)) l = ls l := by
  refine ext_get (by rw [laL_length, joL_length]; exact (hd l hl).symm) fun j hj => ?_
  rw [laL_length] at hj
  rw [laL_get hj]
  rw [joL_length] at hj
  have h1 := (pos_lt h hl).1 hj
  rw [List.getD_eq_getElem?_getD, joL_get h1, lof_pos h hl, idx_pos h hl, get_getD (by rw [hd l hl]; exact hj)]; rfl
theorem dealt_laL {n B : Nat} {zs : List Int} (h : KB n B) : sumN (fun l => (laL B zs l).length) n = zs.length ∧ Dealt n B (laL B zs) := by
  have e : sumN (fun l => (laL B zs l).length) n = zs.length := by
    rw [sumN_congr (g := fun l => cnt B l zs.length) fun l _ => laL_length _ _ _]; exact cnt_sum h
  exact ⟨e, fun l _ => by rw [e, laL_length]⟩
/-- A lane's block more of the message. -/
theorem joL_block {n B r l : Nat} {ls : Nat → List Int} (h : KB n B) (hd : Dealt n B ls) (hl : l < n) :
    (joL n B ls (sumN (fun l => (ls l).length) n)).take (512 * r + (l + 1) * B) = (joL n B ls (sumN (fun l => (ls l).length) n)).take (512 * r + l * B) ++ ((ls l).drop (r * B)).take B := by
  have hL := hd l hl
  generalize sumN (fun l => (ls l).length) n = T at *
  have hc : min (512 * r + (l + 1) * B) T = min (512 * r + l * B) T + min B (cnt B l T - r * B) := by
    rcases h with ⟨rfl, rfl⟩ | ⟨rfl, rfl⟩ <;> unfold cnt <;> omega
  refine ext_get (by simp [joL_length, hL]; exact hc) fun j hj => ?_
  simp only [List.length_take, joL_length] at hj
  rw [List.getElem?_take, if_pos (by omega), joL_get (by omega)]
  by_cases e : j < 512 * r + l * B
  · rw [List.getElem?_append_left (by simp [joL_length]; omega), List.getElem?_take, if_pos e, joL_get (by omega)]
  · have e1 : j / B % n = l := by rcases h with ⟨rfl, rfl⟩ | ⟨rfl, rfl⟩ <;> omega
    have e2 : idx B j = r * B + (j - (512 * r + l * B)) := by rcases h with ⟨rfl, rfl⟩ | ⟨rfl, rfl⟩ <;> unfold idx <;> omega
    have e3 : j - (512 * r + l * B) < B := by rw [Nat.add_mul, Nat.one_mul] at hj; omega
    have e4 : idx B j < (ls l).length := by
      rw [hL]
      have := (pos_lt (j := idx B j) (T := T) h hl).2 (by rw [← e1, pos_idx h]; omega)
      exact this
    rw [List.getElem?_append_right (by simp [joL_length]; omega), List.length_take, joL_length, Nat.min_eq_left (by omega), List.getElem?_take, if_pos e3, List.getElem?_drop, e1, ← e2, get_getD e4]
/-- How many rounds there are. -/
theorem joL_end {n B r T : Nat} (h : KB n B) (hr : cnt B 0 T ≤ r * B) : T ≤ 512 * r := by
  rcases h with ⟨rfl, rfl⟩ | ⟨rfl, rfl⟩ <;> unfold cnt at hr <;> omega
end LW
end Go.Proofs.Ythbakhgfnfdahab
