/-
  What Ready and end of the document's machine give.
-/
import Derived.Test.YtghpfhoajcgghaaSysD
import Derived.Maps.AppendAt
namespace Go.Proofs.Ytghpfhoajcgghaa
open Go.RowKit
set_option linter.unusedVariables false
set_option linter.unusedSimpArgs false
namespace LW
open Mc
theorem intinfo : (Try.prog.info? 3).map (fun i => (i.zero, i.size, i.bytes)) = some (some (.int .i64 0), 1, 8) := by kernel_rfl
theorem info_parts' {P : Program} {ty : TypeId} {z : Value} {n m : Nat} (h : (P.info? ty).map (fun i => (i.zero, i.size, i.bytes)) = some (some z, n, m)) : ∃ i, P.info? ty = some i ∧ i.zero = some z ∧ i.size = n ∧ i.bytes = m := by
  cases hi : P.info? ty with
  | none => rw [hi] at h; cases h
  | some i =>
    rw [hi] at h
    simp at h
    exact ⟨i, rfl, h.1, h.2.1, h.2.2⟩
/-- Numbers as cells. -/
def natV (l : List Nat) : List Value := l.map (fun (k : Nat) => Value.int .i64 (k : Int))
theorem natV_len (l : List Nat) : (natV l).length = l.length := by simp [natV]
theorem filter_more (p : Nat → Bool) (k : Nat) : (List.range (k + 1)).filter p = if p k then (List.range k).filter p ++ [k] else (List.range k).filter p := by
  rw [List.range_succ, List.filter_append]
  by_cases h : p k <;> simp [h]
theorem own_blkI {w : World} {B n s : Nat} {t : TypeId} {v : Value} {xs : List Value} (h : w.ownsRow B t s v n xs) : ∀ k, v.ownBlock = some k → B ≤ k := by
  intro k hk
  rcases h.2 with ⟨rfl, _⟩ | ⟨g, cap, cur, rfl, hg, _⟩
  · simp [Value.ownBlock] at hk
  · simp [Value.ownBlock] at hk; omega
theorem own_belowI {w w' : World} {B n s : Nat} {t : TypeId} {v : Value} {xs : List Value} (h : w.ownsRow B t s v n xs) (hb : Below w.heap.size w w') : w'.ownsRow B t s v n xs := by
  rcases h.2 with ⟨rfl, h0⟩ | ⟨g, cap, cur, rfl, hg, hh, hn, hm, hc, ht⟩
  · exact ⟨h.1, .inl ⟨rfl, h0⟩⟩
  · exact ⟨h.1, .inr ⟨g, cap, cur, rfl, hg, blk_keep hh hb, hn, hm, hc, ht⟩⟩
set_option maxRecDepth 100000 in
set_option maxHeartbeats 2000000 in
theorem rready (g : Nat) (s : Syst) (t : St) (w : World) (h : RdM w g s t) (ho : Mc.Ok s) (hg : Mc.Good s t) :
    Calls Try.prog 19 #[.pointer (some ⟨g, 0, none⟩)] w fun e w' => ∃ v, e = .returned v ∧ w'.ownsRow w.heap.size 3 1 v (Mc.ready s t).length (natV (Mc.ready s t)) ∧ Below w.heap.size w w' := by
  have HM : Hid (∀ W, Below w.heap.size w W → ∃ b c, W.cell? ⟨g, 5, none⟩ = some (.slice (some ⟨b, 0, none⟩) t.rns.length c)) := fun W hW => by
    obtain ⟨b, c, h1, _⟩ := (h.below hW).rn
    exact ⟨b, c, h1⟩
  have HCn : Hid (∀ k W, k < t.rns.length → Below w.heap.size w W → Calls Try.prog 36 #[.pointer (some ⟨g, 0, none⟩), .int .i64 (k : Nat)] W fun e w' => e = .returned (.bool (Mc.can s t k)) ∧ Below W.heap.size W w') := fun k W hk hW => rcan g s t k W (h.below hW) ho hg hk
  have hn := hg.r2
  have HR : Hid (Mc.ready s t = (List.range t.rns.length).filter (Mc.can s t)) := rfl
  have HFl := TW.hide (filter_more (Mc.can s t))
  have hf0 : (List.range 0).filter (Mc.can s t) = [] := rfl
  have HF0 := TW.hide hf0
  have HLn : Hid (∀ k, ((List.range k).filter (Mc.can s t)).length ≤ k) := fun k => Nat.le_trans (List.length_filter_le _ _) (by simp)
  clear h hg hf0
  generalize Mc.ready s t = RL at *
  generalize Mc.can s t = CA at *
  generalize t.rns.length = n at *
  obtain ⟨i3, hi3, hz30, hz31, hz32⟩ := info_parts' intinfo
  go_enter Try.func19, Try.ntmps19
  go_wp2
  go_loopw [3, 4] (fun l i wr => ∃ k : Nat, k ≤ n ∧ i = .int .i64 (k : Int) ∧ Hid (wr.ownsRow w.heap.size 3 1 l ((List.range k).filter CA).length (natV ((List.range k).filter CA))) ∧ Hid (Below w.heap.size w wr)) (fun l i wr => n - (intOf i).toNat)
  case atStart => exact ⟨0, Nat.zero_le _, rfl, by rw [HF0.out]; exact ⟨rfl, .inl ⟨rfl, rfl⟩⟩, TW.hide (Below.refl _ _)⟩
  case round =>
    obtain ⟨k, hk, rfl, HO, HB⟩ := hrel
    obtain ⟨b, c, h5⟩ := HM.out wr HB.out
    by_cases hlt : k < n
    · have hk1 : (k : Int) < (n : Int) := by omega
      have HLT := TW.hide hlt
      have HC1 := TW.hide (HCn.out k wr hlt HB.out)
      have hle := HLn.out k
      have HFk := TW.hide (HFl.out k)
      generalize hFK : (List.range k).filter CA = FK at *
      clear hFK hlt
      obtain ⟨cb, hcb⟩ : ∃ cb, CA k = cb := ⟨_, rfl⟩
      rw [hcb] at HC1 HFk
      clear hcb
      go_wp2_with fail
      refine HC1.out.mono ?_
      rintro e1 w1 ⟨rfl, hb⟩
      have HO1 := TW.hide (own_belowI HO.out hb)
      have HB1 : Hid (Below w.heap.size w w1) := HB.out.trans (hb.mono HB.out.size)
      clear hb HO HB h5 HC1
      cases cb with
      | true =>
        go_wp2_with (at_builtin; refine wpList_append_own _ rfl _ _ 24 rfl w.heap.size 3 i3 (.int .i64 0) 1 8 Try.underlying24 hi3 hz30 hz31 hz32 rfl (by decide) _ FK.length (natV FK) rfl (HO1.out.alloc _) ⟨w1.heap.size, 0, none⟩ 1 1 [.int .i64 (k : Int)] rfl rfl (cell_one_new _ _ _) (by simp [Value.oneCell']) (by unfold maxLen; omega) (by omega) (by have := HB1.out.size; simp; omega) ?_; (intro v5 w5 hown' hgrow _); have HO5 := TW.hide hown'; have HG5 := TW.hide hgrow; clear hown' hgrow)
        have HB5 : Hid (Below w.heap.size w w5) := (HB1.out.alloc HB1.out.size _).grown HG5.out (by have := HB1.out.size; simp; omega) (fun q hq => own_blkI HO1.out q hq)
        clear HG5 HO1 HB1
        go_wp2
        go_roundw
        case rel =>
          refine ⟨k + 1, HLT.out, by go_num, ?_, HB5⟩
          rw [HFk.out, if_pos (by trivial)]
          show World.ownsRow _ _ _ _ _ _ _
          rw [List.length_append, natV, List.map_append]
          exact HO5.out
        case measure => simp [intOf]; have := HLT.out; omega
      | false =>
        go_wp2
        go_roundw
        case rel =>
          refine ⟨k + 1, HLT.out, by go_num, ?_, HB1⟩
          rw [HFk.out, if_neg (by simp)]
          exact HO1
        case measure => simp [intOf]; have := HLT.out; omega
    · have hkn : n = k := by omega
      subst hkn
      rw [← HR.out] at HO
      go_wp2
      go_ret
      exact ⟨_, rfl, HO.out, HB.out⟩
set_option maxRecDepth 100000 in
set_option maxHeartbeats 2000000 in
theorem rend (g : Nat) (s : Syst) (t : St) (w : World) (h : RdM w g s t) (hg : Mc.Good s t) :
    Calls Try.prog 20 #[.pointer (some ⟨g, 0, none⟩), .int .i64 ((Mc.ready s t).length : Nat)] w fun e w' => e = .returned (.int .i64 (Mc.fin s t)) ∧ w = w' := by
  have HO := TW.hide (rover g s t w h hg.r2)
  obtain ⟨a, c, e1⟩ := h.ev
  have HF : Hid (Mc.fin s t = if Mc.over t = true then 1 else if 40000 ≤ t.evs.length then 4 else if Mc.ready s t = [] then 2 else 0) := rfl
  have hel := hg.el
  have HRL : Hid (Mc.ready s t = [] ↔ (Mc.ready s t).length = 0) := List.length_eq_zero_iff.symm
  generalize Mc.fin s t = FI at *
  generalize Mc.over t = OV at *
  generalize t.evs.length = en at *
  clear h hg
  obtain ⟨rl, hrl⟩ : ∃ rl, (Mc.ready s t).length = rl := ⟨_, rfl⟩
  rw [hrl] at HRL ⊢
  clear hrl
  generalize Mc.ready s t = RL at *
  go_enter Try.func20, Try.ntmps20
  go_wp2_with fail
  refine HO.out.mono ?_
  rintro e2 w2 ⟨rfl, rfl⟩
  clear HO
  cases OV with
  | true =>
    have HF2 : Hid (FI = 1) := by show _ = _; rw [HF.out, if_pos rfl]
    go_wp2
    go_ret
    exact ⟨by rw [HF2.out]; rfl, rfl⟩
  | false =>
    by_cases h4 : 40000 ≤ en
    · have HF2 : Hid (FI = 4) := by show _ = _; rw [HF.out, if_neg (by decide), if_pos h4]
      have k4 : (40000 : Int) ≤ (en : Int) := by omega
      go_wp2
      go_ret
      exact ⟨by rw [HF2.out]; rfl, rfl⟩
    · have k4 : ((40000 : Int) ≤ (en : Int)) = False := eq_false (by omega)
      by_cases hz : rl = 0
      · have HF2 : Hid (FI = 2) := by show _ = _; rw [HF.out, if_neg (by decide), if_neg h4, if_pos (HRL.out.2 hz)]
        have kz : ((rl : Int) == 0) = true := by simp [hz]
        clear hz h4 hel
        go_wp2
        go_ret
        exact ⟨by rw [HF2.out]; rfl, rfl⟩
      · have HF2 : Hid (FI = 0) := by show _ = _; rw [HF.out, if_neg (by decide), if_neg h4, if_neg (fun h => hz (HRL.out.1 h))]
        have kz : ((rl : Int) == 0) = false := by simp [hz]
        clear hz h4 hel
        go_wp2
        go_ret
        exact ⟨by rw [HF2.out]; rfl, rfl⟩
end LW
end Go.Proofs.Ytghpfhoajcgghaa
