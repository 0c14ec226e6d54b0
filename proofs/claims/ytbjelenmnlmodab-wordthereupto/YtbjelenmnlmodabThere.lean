/-
  Plain facts for 'bytes as text and back' (no Go in sight): digits and letters there and back.
-/
import Derived.Test.YtbjelenmnlmodabB64b
import Derived.Laws.BytesArg
namespace Go.Proofs.Ytbjelenmnlmodab.Txt
open Go Words

theorem sb_str (l : List Int) (h : Byt l) : sb (strOfNums l) = l := by
  unfold sb
  rw [strOfNums_data, List.map_map]
  have : ∀ z ∈ l, ((fun b : UInt8 => (b.toNat : Int)) ∘ fun n : Int => UInt8.ofNat n.toNat) z = z := by
    intro z hz
    have := h z hz
    simp only [Function.comp, UInt8.toNat_ofNat']
    omega
  rw [List.map_congr_left this, List.map_id']

/-- The digit's byte. -/
def dg' (n : Int) : Int := if n < 10 then 48 + n else 87 + n
theorem hw_dg (n : Int) (h0 : 0 ≤ n) (h1 : n < 16) : hw (dg' n) = n := by unfold hw dg'; repeat' split <;> omega
theorem dg_bd (n : Int) (h0 : 0 ≤ n) (h1 : n < 16) : 0 ≤ dg' n ∧ dg' n < 256 := by unfold dg'; split <;> omega
/-- A digit that is no capital is the digit of its worth. -/
theorem dg_hw (c : Int) (h : hw c ≠ -1) (hc : ¬ (65 ≤ c ∧ c ≤ 70)) : dg' (hw c) = c := by
  unfold hw at *
  unfold dg'
  repeat' split at h
  all_goals repeat' split
  all_goals omega
theorem bad_all (g : Int → Int) (l : List Int) (h : ∀ x ∈ l, g x ≠ -1) : bad g l = l.length := by
  induction l with
  | nil => rfl
  | cons x l ih => simp [bad, h x (by simp), ih fun y hy => h y (by simp [hy])]
theorem all_bad (g : Int → Int) (l : List Int) (h : bad g l = l.length) : ∀ x ∈ l, g x ≠ -1 := by
  induction l with
  | nil => intro x hx; cases hx
  | cons x l ih =>
    simp only [bad, List.length_cons] at h
    split at h
    · omega
    · rename_i hx
      intro y hy
      rcases List.mem_cons.1 hy with rfl | hy
      · exact hx
      · exact ih (by omega) y hy
end Go.Proofs.Ytbjelenmnlmodab.Txt
namespace Go.Proofs.Ytbjelenmnlmodab.B64
open Go Words Txt
/-- The same, told from the front: how many bits are kept, what they are worth. -/
def G (f : Nat) (h : Int) : List Int → List Int
  | [] => if f = 0 then [] else [h * 2 ^ (6 - f)]
  | z :: l => if f = 0 then z / 4 :: G 2 (z % 4) l else if f = 2 then (16 * h + z / 16) :: G 4 (z % 16) l else (4 * h + z / 64) :: z % 64 :: G 0 0 l
theorem fold_G (zs : List Int) (o : List Int) (f : Nat) (h : Int) (hz : Byt zs) (hf : (f = 0 ∧ h = 0) ∨ f = 2 ∨ f = 4) :
    (let s := zs.foldl St.byte ⟨o, f, h⟩; s.out ++ if s.have_ = 0 then [] else [s.worth * 2 ^ (6 - s.have_)]) = o ++ G f h zs := by
  induction zs generalizing o f h with
  | nil => by_cases h0 : f = 0 <;> simp [G, h0]
  | cons z l ih =>
    obtain ⟨hb, hl⟩ := hz.cons
    rcases hf with ⟨rfl, rfl⟩ | rfl | rfl
    · rw [List.foldl_cons, byte0 _ _ hb.1 hb.2, ih _ _ _ hl (.inr (.inl rfl))]; simp [G]
    · rw [List.foldl_cons, byte2 _ _ _ hb.1 hb.2, ih _ _ _ hl (.inr (.inr rfl))]; simp [G]
    · rw [List.foldl_cons, byte4 _ _ _ hb.1 hb.2, ih _ _ _ hl (.inl ⟨rfl, rfl⟩)]; simp [G]
theorem F_G (zs : List Int) (hz : Byt zs) : F zs = G 0 0 zs := by
  have := fold_G zs [] 0 0 hz (.inl ⟨rfl, rfl⟩)
  rw [List.nil_append] at this
  exact this
/-- Letters back to bytes, from the front. -/
def Bk (f : Nat) (h : Int) : List Int → List Int × Int
  | [] => ([], h)
  | v :: l =>
    if f = 0 then Bk 6 v l
    else if f = 6 then ((4 * h + v / 16) :: (Bk 4 (v % 16) l).1, (Bk 4 (v % 16) l).2)
    else if f = 4 then ((16 * h + v / 4) :: (Bk 2 (v % 4) l).1, (Bk 2 (v % 4) l).2)
    else ((64 * h + v) :: (Bk 0 0 l).1, (Bk 0 0 l).2)
theorem fold_Bk (vs : List Int) (o : List Int) (f : Nat) (h : Int) (hv : ∀ v ∈ vs, 0 ≤ v ∧ v < 64) (hf : (f = 0 ∧ h = 0) ∨ f = 6 ∨ f = 4 ∨ f = 2) :
    (vs.foldl St.lett ⟨o, f, h⟩).out = o ++ (Bk f h vs).1 ∧ (vs.foldl St.lett ⟨o, f, h⟩).worth = (Bk f h vs).2 := by
  induction vs generalizing o f h with
  | nil => simp [Bk]
  | cons v l ih =>
    have hb := hv v (by simp)
    have hl : ∀ x ∈ l, 0 ≤ x ∧ x < 64 := fun x hx => hv x (by simp [hx])
    rcases hf with ⟨rfl, rfl⟩ | rfl | rfl | rfl
    · rw [List.foldl_cons, lett0 _ _ hb.1 hb.2]
      have := ih o 6 v hl (.inr (.inl rfl))
      simpa [Bk] using this
    · rw [List.foldl_cons, lett6 _ _ _ hb.1 hb.2]
      have := ih (o ++ [4 * h + v / 16]) 4 (v % 16) hl (.inr (.inr (.inl rfl)))
      simpa [Bk] using this
    · rw [List.foldl_cons, lett4 _ _ _ hb.1 hb.2]
      have := ih (o ++ [16 * h + v / 4]) 2 (v % 4) hl (.inr (.inr (.inr rfl)))
      simpa [Bk] using this
    · rw [List.foldl_cons, lett2 _ _ _ hb.1 hb.2]
      have := ih (o ++ [64 * h + v]) 0 0 hl (.inl ⟨rfl, rfl⟩)
      simpa [Bk] using this
theorem D_Bk (vs : List Int) (hv : ∀ v ∈ vs, 0 ≤ v ∧ v < 64) : (D vs).out = (Bk 0 0 vs).1 ∧ (D vs).worth = (Bk 0 0 vs).2 := by
  have := fold_Bk vs [] 0 0 hv (.inl ⟨rfl, rfl⟩)
  rw [List.nil_append] at this
  exact this
/-- Bytes to letters and back: all three at once, three bytes a turn. -/
theorem Bk_G : ∀ (zs : List Int), Byt zs → (Bk 0 0 (G 0 0 zs)).1 = zs ∧ (Bk 0 0 (G 0 0 zs)).2 = 0
  | [], _ => by simp [G, Bk]
  | [a], h => by
    have ha := h a (by simp)
    simp [G, Bk]
    omega
  | [a, b], h => by
    have ha := h a (by simp)
    have hb := h b (by simp)
    simp [G, Bk]
    omega
  | a :: b :: c :: l, h => by
    have ha := h a (by simp)
    have hb := h b (by simp)
    have hc := h c (by simp)
    have ih := Bk_G l (fun x hx => h x (by simp [hx]))
    simp [G, Bk, ih.1, ih.2]
    omega
theorem G_len (zs : List Int) : (G 0 0 zs).length % 4 ≠ 1 := by
  match zs with
  | [] => simp [G]
  | [a] => simp [G]
  | [a, b] => simp [G]
  | a :: b :: c :: l => have := G_len l; simp [G]; omega
theorem G_bd : ∀ (zs : List Int), Byt zs → ∀ v ∈ G 0 0 zs, 0 ≤ v ∧ v < 64
  | [], _ => by simp [G]
  | [a], h => by
    have ha := h a (by simp)
    simp [G]; omega
  | [a, b], h => by
    have ha := h a (by simp)
    have hb := h b (by simp)
    simp [G]; omega
  | a :: b :: c :: l, h => by
    have ha := h a (by simp)
    have hb := h b (by simp)
    have hc := h c (by simp)
    have ih := G_bd l (fun x hx => h x (by simp [hx]))
    intro v hv
    simp [G] at hv
    rcases hv with rfl | rfl | rfl | rfl | hv
    · omega
    · omega
    · omega
    · omega
    · exact ih v hv
/-- Letters to bytes and back, where nothing is left over: four letters a turn. -/
theorem G_Bk : ∀ (vs : List Int), (∀ v ∈ vs, 0 ≤ v ∧ v < 64) → vs.length % 4 ≠ 1 → (Bk 0 0 vs).2 = 0 → Byt (Bk 0 0 vs).1 ∧ G 0 0 (Bk 0 0 vs).1 = vs
  | [], _, _, _ => by simp [G, Bk, Byt.nil]
  | [a], _, h, _ => by simp at h
  | [a, b], h, _, h2 => by
    have ha := h a (by simp)
    have hb := h b (by simp)
    simp [Bk] at h2
    refine ⟨?_, ?_⟩
    · simp [Bk]
      exact Byt.mk (by omega) (by omega) Byt.nil
    · simp [G, Bk]; omega
  | [a, b, c], h, _, h2 => by
    have ha := h a (by simp)
    have hb := h b (by simp)
    have hc := h c (by simp)
    simp [Bk] at h2
    refine ⟨?_, ?_⟩
    · simp [Bk]
      exact Byt.mk (by omega) (by omega) (Byt.mk (by omega) (by omega) Byt.nil)
    · simp [G, Bk]; omega
  | a :: b :: c :: d :: l, h, hl, h2 => by
    have ha := h a (by simp)
    have hb := h b (by simp)
    have hc := h c (by simp)
    have hd := h d (by simp)
    have e : Bk 0 0 (a :: b :: c :: d :: l) = ((4 * a + b / 16) :: (16 * (b % 16) + c / 4) :: (64 * (c % 4) + d) :: (Bk 0 0 l).1, (Bk 0 0 l).2) := by simp [Bk]
    rw [e] at h2 ⊢
    have ih := G_Bk l (fun x hx => h x (by simp [hx])) (by simp at hl; omega) h2
    refine ⟨Byt.mk (by omega) (by omega) (Byt.mk (by omega) (by omega) (Byt.mk (by omega) (by omega) ih.1)), ?_⟩
    simp [G, ih.2]
    omega
end Go.Proofs.Ytbjelenmnlmodab.B64
