/-
  What the calls trimmed (the document) and copied (the law) give.
-/
import Derived.Test.YtomdplcmbcjkfaaEnds
namespace Go.Proofs.Ytomdplcmbcjkfaa
open Go.RowKit
set_option linter.unusedVariables false
namespace LW
open Words
theorem take_take_tr (zs : List Int) (k : Nat) (h : k < (tr zs).length) : (tr zs).getD k 0 = zs.getD k 0 := by
  have := tn_le zs zs.length
  rw [tr_length] at h
  simp [LW.tr, List.getD_eq_getElem?_getD, h]
set_option maxRecDepth 20000 in
set_option maxHeartbeats 2000000 in
theorem trimmed (a : Option Addr) (cap : Nat) (zs : List Int) (w : World) (hr : Row w a zs) (hn : a = none → cap = 0) (hm : zs.length ≤ 140737488351232) :
    Calls Try.prog 44 #[.slice a zs.length cap] w fun e w' => ∃ x, e = .returned x ∧ w'.ownsRow w.heap.size 5 1 x (tr zs).length (vs (tr zs)) ∧ Below w.heap.size w w' := by
  obtain ⟨i0, hi, hz0, hz1, hz2⟩ := info_parts info5
  by_cases hz : zs = []
  · subst hz
    clear hr hn
    go_enter Try.func44, Try.ntmps44
    go_wp2
    go_loop [3] (fun i => i = .int .i64 0) (fun _ => 0)
    case atStart => rfl
    case round =>
      subst hrel
      go_wp2
      go_loop [4, 5] (fun o i => o = .slice none 0 0 ∧ i = .int .i64 0) (fun _ _ => 0)
      case atStart => exact ⟨rfl, rfl⟩
      case round =>
        obtain ⟨rfl, rfl⟩ := hrel
        go_wp2
        go_ret
        exact ⟨_, rfl, World.ownsRow_nil _ _ _ _, Below.refl _ _⟩
  · rcases hr with h | ⟨b, off, rfl, hcell⟩
    · exact absurd h hz
    · have hstep : ∀ k, tn zs (k + 1) = if zs.getD k 0 = 0 then tn zs k else k + 1 := fun k => rfl
      have h0 : tn zs 0 = 0 := rfl
      have hge : ∀ k, k < (tr zs).length → (tr zs).take (k + 1) = (tr zs).take k ++ [(tr zs).getD k 0] := fun k h => take_snoc _ _ h
      have hgd : ∀ k, k < (tr zs).length → (tr zs).getD k 0 = zs.getD k 0 := fun k h => take_take_tr zs k h
      have hT : tn zs zs.length = (tr zs).length := (tr_length zs).symm
      have hTl : (tr zs).length ≤ zs.length := by rw [← hT]; exact tn_le _ _
      have hbw : b < w.heap.size := lt_of_cell (hcell 0 (by cases zs with | nil => exact absurd rfl hz | cons _ _ => simp))
      generalize tr zs = T at *
      generalize hlen : zs.length = len at *
      have H1 := TW.hide hcell
      have HS := TW.hide hstep
      have H0 := TW.hide h0
      have HG := TW.hide hge
      have HD := TW.hide hgd
      have HT0 := TW.hide hT
      clear hcell hstep h0 hge hgd hz hlen hn hT
      generalize hTt : T.length = tl at *
      have HTT := TW.hide hTt
      clear hTt
      go_enter Try.func44, Try.ntmps44
      go_wp2
      go_loopw [3] (fun i wr => ∃ (k q : Nat), k ≤ len ∧ i = .int .i64 k ∧ Hid (tn zs k = tn zs len) ∧ wr = w.drewN q) (fun i _ => (intOf i).toNat)
      case atStart => exact ⟨len, 0, Nat.le_refl _, rfl, rfl, rfl⟩
      case round =>
        obtain ⟨k, q, hk, rfl, HT, rfl⟩ := hrel
        have hfin : (k = 0 ∨ ∃ k', k = k' + 1 ∧ ¬ zs.getD k' 0 = 0) ∨ (∃ k', k = k' + 1 ∧ zs.getD k' 0 = 0) := by
          cases k with
          | zero => exact .inl (.inl rfl)
          | succ k' =>
            by_cases h : zs.getD k' 0 = 0
            · exact .inr ⟨k', rfl, h⟩
            · exact .inl (.inr ⟨k', rfl, h⟩)
        rcases hfin with hfin | ⟨k', rfl, hzk⟩
        · have hk' : k = tl := by
            have h := HT.out
            rw [HT0.out] at h
            rcases hfin with rfl | ⟨k', rfl, hne⟩
            · rw [← h, H0.out]
            · rw [HS.out k', if_neg hne] at h; exact h
          subst hk'
          have hex : (k = 0) ∨ ∃ k' z, k = k' + 1 ∧ (z == (0 : Int)) = false ∧ w.cell? ⟨b, off + k', none⟩ = some (.int .u8 z) := by
            rcases hfin with h | ⟨k', rfl, hne⟩
            · exact .inl h
            · exact .inr ⟨k', _, rfl, by simpa using hne, H1.out k' (by omega)⟩
          clear hfin HT H0 HS
          rcases hex with rfl | ⟨k', z, hkk, hzz, hc⟩
          · go_wp2
            go_loop [4, 5] (fun o i => o = .slice none 0 0 ∧ i = .int .i64 0) (fun _ _ => 0)
            case atStart => exact ⟨rfl, rfl⟩
            case round =>
              obtain ⟨rfl, rfl⟩ := hrel
              go_wp2
              go_ret
              have hTn : T = [] := List.length_eq_zero_iff.1 HTT.out
              subst hTn
              exact ⟨_, rfl, World.ownsRow_nil _ _ _ _, below_drewN (Below.refl _ _) _⟩
          · have hsub : ((k : Int) - 1) = (k' : Int) := by omega
            have hwr : IntKind.i64.wrap (k' : Int) = (k' : Int) := by rw [IntKind.wrap_i64]; omega
            have hpos : (0 : Int) < (k : Int) := by omega
            have hk0 : (0 : Int) ≤ (k' : Int) := by omega
            have hk1 : (k' : Int) < (len : Int) := by omega
            go_wp2
            clear hc hzz hsub hwr hk0 hk1 hkk
            go_loopw [4, 5] (fun o i wr => ∃ r : Nat, r ≤ k ∧ i = .int .i64 r ∧ wr.ownsRow w.heap.size 5 1 o r (vs (T.take r)) ∧ Below w.heap.size w wr) (fun _ i _ => k - (intOf i).toNat)
            case atStart => exact ⟨0, Nat.zero_le _, rfl, World.ownsRow_nil _ _ _ _, below_drewN (Below.refl _ _) _⟩
            case round =>
              obtain ⟨r, hrk, rfl, hown, hbel⟩ := hrel
              by_cases hlt : r < k
              · have hc : wr.cell? ⟨b, off + r, none⟩ = some (.int .u8 (T.getD r 0)) := by rw [hbel.cell hbw, HD.out r hlt]; exact H1.out r (by omega)
                have hsn := HG.out r hlt
                generalize T.getD r 0 = z1 at *
                have hq0 : (0 : Int) ≤ (r : Int) := by omega
                have hq1 : (r : Int) < (len : Int) := by omega
                have HSN := TW.hide hsn
                have HB := TW.hide hbel
                clear hsn hbel
                go_wp2_with (at_builtin; refine wpList_append_own _ rfl _ _ 24 rfl w.heap.size 5 i0 (.int .u8 0) 1 1 Try.underlying24 hi hz0 hz1 hz2 rfl (by decide) _ _ _ rfl (hown.alloc _) ⟨wr.heap.size, 0, none⟩ 1 1 [.int .u8 z1] rfl rfl ?c1 ?c2 ?c3 ?c4 ?c5 ?_)
                case c1 => exact one_new _ _
                case c2 => intro u hu; simp at hu; subst hu; rfl
                case c3 => unfold maxLen; omega
                case c4 => omega
                case c5 => have := HB.out.size; simp; omega
                intro v' w2 hown' hgrow' _
                have hbel2 : Below w.heap.size w w2 := (HB.out.alloc HB.out.size _).grown hgrow' (by have := HB.out.size; simp; omega) (own_block hown)
                have K1 := TW.hide hown'
                have K2 := TW.hide hbel2
                clear hown hown' hgrow' hbel2
                go_wp2
                go_roundw
                case rel => exact ⟨r + 1, by omega, by go_num, by rw [HSN.out, vs_append]; exact K1.out, K2.out⟩
                case measure => simp [intOf]; omega
              · obtain rfl : r = k := by omega
                have hTT : T.take r = T := List.take_of_length_le (by rw [HTT.out]; omega)
                rw [hTT] at hown
                have K1 := TW.hide hown
                have K2 := TW.hide hbel
                clear hown hbel
                go_wp2
                go_ret
                exact ⟨_, rfl, K1.out, K2.out⟩
        · have hc := H1.out k' (by omega)
          have hs := HS.out k'
          have hsub : (((k' + 1 : Nat) : Int) - 1) = (k' : Int) := by omega
          have hpos : (0 : Int) < ((k' + 1 : Nat) : Int) := by omega
          have hk0 : (0 : Int) ≤ (k' : Int) := by omega
          have hk1 : (k' : Int) < (len : Int) := by omega
          rw [hzk] at hc hs
          have HT' : Hid (tn zs k' = tn zs len) := by have := HT.out; rw [hs, if_pos rfl] at this; exact this
          clear hs HT hzk
          go_wp2
          go_roundw
          case rel => exact ⟨k', _, by omega, by go_num, HT', rfl⟩
          case measure => simp [intOf]
end LW
end Go.Proofs.Ytomdplcmbcjkfaa
