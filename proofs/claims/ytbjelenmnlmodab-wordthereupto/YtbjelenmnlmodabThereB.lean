/-
  Plain facts for 'bytes as text and back': what the answers of Hex, UnHex, Base64 and UnBase64 are of one another's.
-/
import Derived.Test.YtbjelenmnlmodabThere
import Derived.Test.YtbjelenmnlmodabUnBase
import Derived.Test.YtbjelenmnlmodabBase
namespace Go.Proofs.Ytbjelenmnlmodab.LW
open Go Words Txt B64
theorem hx_byt {zs : List Int} (h : Byt zs) : Byt (hx zs) := by
  induction zs with
  | nil => exact Byt.nil
  | cons z l ih =>
    obtain ⟨hb, hl⟩ := h.cons
    have h1 := dg_bd (z / 16) (by omega) (by omega)
    have h2 := dg_bd (z % 16) (by omega) (by omega)
    exact Byt.mk h1.1 h1.2 (Byt.mk h2.1 h2.2 (ih hl))
theorem hx_good {zs : List Int} (h : Byt zs) : ∀ x ∈ hx zs, hw x ≠ -1 := by
  induction zs with
  | nil => intro x hx; cases hx
  | cons z l ih =>
    obtain ⟨hb, hl⟩ := h.cons
    intro x hxx
    have h1 : hw (dg (z / 16)) = z / 16 := hw_dg _ (by omega) (by omega)
    have h2 : hw (dg (z % 16)) = z % 16 := hw_dg _ (by omega) (by omega)
    rcases List.mem_cons.1 hxx with rfl | hxx
    · omega
    · rcases List.mem_cons.1 hxx with rfl | hxx
      · omega
      · exact ih hl x hxx
theorem uh_hx {zs : List Int} (h : Byt zs) : uh (hx zs) = zs := by
  induction zs with
  | nil => rfl
  | cons z l ih =>
    obtain ⟨hb, hl⟩ := h.cons
    have h1 : hw (dg (z / 16)) = z / 16 := hw_dg _ (by omega) (by omega)
    have h2 : hw (dg (z % 16)) = z % 16 := hw_dg _ (by omega) (by omega)
    simp only [hx, uh, h1, h2, ih hl, List.cons.injEq, and_true]
    omega
theorem hexOk_hx {zs : List Int} (h : Byt zs) : hexOk (hx zs) = true :=
  hexOk_yes (bad_all hw _ (hx_good h)) (by rw [hx_length]; omega)
theorem hexB_hx {zs : List Int} (h : Byt zs) : hexB (hx zs) = zs := by simp [hexB, hexOk_hx h, uh_hx h]
theorem hexE_hx {zs : List Int} (h : Byt zs) : hexE (hx zs) = 0 := by simp [hexE, hexOk_hx h]
theorem hx_uh : ∀ (l : List Int), (∀ x ∈ l, hw x ≠ -1 ∧ ¬ (65 ≤ x ∧ x ≤ 70)) → l.length % 2 = 0 → hx (uh l) = l
  | [], _, _ => rfl
  | [a], _, h => by simp at h
  | a :: b :: l, h, hl => by
    have ha := h a (by simp)
    have hb := h b (by simp)
    have ih := hx_uh l (fun x hx => h x (by simp [hx])) (by simp at hl; omega)
    have h1 : dg (hw a) = a := dg_hw a ha.1 ha.2
    have h2 : dg (hw b) = b := dg_hw b hb.1 hb.2
    have d1 := hw_bd a
    have d2 := hw_bd b
    have e1 : (16 * hw a + hw b) / 16 = hw a := by omega
    have e2 : (16 * hw a + hw b) % 16 = hw b := by omega
    simp only [uh, hx, e1, e2, h1, h2, ih]
/-- A taken text without capital digits is that of its bytes. -/
theorem hex_back (l : List Int) (h : hexE l = 0) (hc : ∀ x ∈ l, ¬ (65 ≤ x ∧ x ≤ 70)) : hx (hexB l) = l := by
  have hok : hexOk l = true := by
    unfold hexE at h
    split at h
    · assumption
    · omega
  have h2 := hok
  simp only [hexOk, decide_eq_true_eq] at h2
  have hall := all_bad hw l h2.1
  rw [hexB, if_pos hok]
  exact hx_uh l (fun x hx => ⟨hall x hx, hc x hx⟩) h2.2

theorem enc_byt {zs : List Int} (h : Byt zs) : Byt (enc zs) := by
  intro x hx
  simp only [enc, List.mem_map] at hx
  obtain ⟨v, hv, rfl⟩ := hx
  rw [F_G zs h] at hv
  have := G_bd zs h v hv
  exact let6_bd v this.1 this.2
theorem enc_vals {zs : List Int} (h : Byt zs) : (enc zs).map bw = G 0 0 zs := by
  unfold enc
  rw [List.map_map, F_G zs h]
  have : ∀ v ∈ G 0 0 zs, (bw ∘ let6) v = v := fun v hv => bw_let6 v (G_bd zs h v hv).1 (G_bd zs h v hv).2
  rw [List.map_congr_left this, List.map_id']
theorem enc_ok {zs : List Int} (h : Byt zs) : bOk (enc zs) = true := by
  refine bOk_yes (bad_all bw _ fun x hx => ?_) ?_
  · simp only [enc, List.mem_map] at hx
    obtain ⟨v, hv, rfl⟩ := hx
    rw [F_G zs h] at hv
    have hb := G_bd zs h v hv
    rw [bw_let6 v hb.1 hb.2]
    omega
  · unfold enc
    rw [List.length_map, F_G zs h]
    exact G_len zs
theorem D_enc {zs : List Int} (h : Byt zs) : (D ((enc zs).map bw)).out = zs ∧ (D ((enc zs).map bw)).worth = 0 := by
  rw [enc_vals h]
  have h1 := D_Bk (G 0 0 zs) (G_bd zs h)
  have h2 := Bk_G zs h
  exact ⟨h1.1.trans h2.1, h1.2.trans h2.2⟩
theorem bB_enc {zs : List Int} (h : Byt zs) : bB (enc zs) = zs := by
  unfold bB
  rw [if_pos ⟨enc_ok h, (D_enc h).2⟩, (D_enc h).1]
theorem bE_enc {zs : List Int} (h : Byt zs) : bE (enc zs) = 0 := by
  unfold bE
  rw [if_pos ⟨enc_ok h, (D_enc h).2⟩]
/-- A taken text is that of its bytes. -/
theorem base_back (l : List Int) (h : bE l = 0) : Byt (bB l) ∧ enc (bB l) = l := by
  have hok : bOk l = true ∧ (D (l.map bw)).worth = 0 := by
    unfold bE at h
    split at h
    · assumption
    · omega
  have h2 := hok.1
  simp only [bOk, decide_eq_true_eq] at h2
  have hall := all_bad bw l h2.1
  have hv : ∀ v ∈ l.map bw, 0 ≤ v ∧ v < 64 := by
    intro v hv
    simp only [List.mem_map] at hv
    obtain ⟨c, hc, rfl⟩ := hv
    have h3 := hall c hc
    have := bw_bd c
    omega
  have hd := D_Bk (l.map bw) hv
  have hg := G_Bk (l.map bw) hv (by rw [List.length_map]; exact h2.2) (by rw [← hd.2]; exact hok.2)
  rw [← hd.1] at hg
  rw [bB, if_pos hok]
  refine ⟨hg.1, ?_⟩
  unfold enc
  rw [F_G _ hg.1, hg.2, List.map_map]
  have : ∀ c ∈ l, (let6 ∘ bw) c = c := fun c hc => let6_bw c (hall c hc)
  rw [List.map_congr_left this, List.map_id']
theorem str_sb (s : ByteArray) : strOfNums (sb s) = s := by
  apply sb_inj
  rw [sb_str _ (sb_byt s)]
end Go.Proofs.Ytbjelenmnlmodab.LW
