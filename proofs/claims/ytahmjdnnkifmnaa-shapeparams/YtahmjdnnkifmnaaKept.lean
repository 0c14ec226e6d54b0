/-
  What the calls unlessNoughts (the program) and kept (the document) give: the same bytes in memory of their own, or none where they are noughts alone.
-/
import Derived.Test.YtahmjdnnkifmnaaClone
namespace Go.Proofs.Ytahmjdnnkifmnaa
open Go.RowKit
set_option linter.unusedVariables false
namespace LW
open Words
/-- What is told of bytes: none, where they are noughts. -/
def kpL (zs : List Int) : List Int := if zs.all (fun z => decide (z = 0)) then [] else zs
theorem kpL_none {zs : List Int} (h : ∀ i, i < zs.length → zs.getD i 0 = 0) : kpL zs = [] := by
  unfold kpL
  rw [if_pos]
  rw [List.all_eq_true]
  intro x hx
  obtain ⟨i, hi, rfl⟩ := List.mem_iff_getElem.1 hx
  have := h i hi
  rw [List.getD_eq_getElem?_getD, List.getElem?_eq_getElem hi] at this
  simpa using this
theorem kpL_some {zs : List Int} {i : Nat} (hi : i < zs.length) (h : zs.getD i 0 ≠ 0) : kpL zs = zs := by
  unfold kpL
  rw [if_neg]
  intro hh
  rw [List.all_eq_true] at hh
  apply h
  rw [List.getD_eq_getElem?_getD, List.getElem?_eq_getElem hi]
  simpa using hh _ (List.getElem_mem hi)
def KpP (w : World) (zs : List Int) (e : Ending) (w' : World) : Prop :=
  ∃ v, e = .returned v ∧ w'.ownsRow w.heap.size 5 1 v (kpL zs).length (vs (kpL zs)) ∧ Below w.heap.size w w'
theorem unless0 (a : Option Addr) (cap : Nat) (w : World) :
    Calls Try.prog 23 #[.slice a 0 cap] w (KpP w []) := by
  go_enter Try.func23, Try.ntmps23
  go_wp2
  go_loop [7] (fun i => i = .int .i64 0) (fun _ => 0)
  case atStart => rfl
  case round =>
    subst hrel
    go_wp2
    go_ret
    exact ⟨_, rfl, World.ownsRow_nil _ _ _ _, Below.refl _ _⟩
set_option maxRecDepth 20000 in
set_option maxHeartbeats 1000000 in
theorem unless_ (a : Option Addr) (cap : Nat) (zs : List Int) (w : World) (hr : Row w a zs) (hn : a = none → cap = 0) (hm : zs.length ≤ 140737488355328) :
    Calls Try.prog 23 #[.slice a zs.length cap] w (KpP w zs) := by
  have hr0 := hr
  rcases hr with rfl | ⟨b, off, rfl, hcell⟩
  · exact unless0 _ _ _
  · have HC := TW.hide (fun q => clone (some ⟨b, off, none⟩) cap zs (w.drewN q) (hr0.drewN q) hn hm)
    obtain ⟨len, hlen⟩ : ∃ len, zs.length = len := ⟨_, rfl⟩
    rw [hlen] at hm hcell HC ⊢
    have H1 := TW.hide hcell
    have HN := TW.hide hlen
    clear hcell hr0 hn hlen
    go_enter Try.func23, Try.ntmps23
    go_wp2
    go_loopw [7] (fun i wr => ∃ (k : Nat) (q : Nat), k ≤ len ∧ i = .int .i64 k ∧ Hid (∀ j, j < k → zs.getD j 0 = 0) ∧ wr = w.drewN q) (fun i _ => len - (intOf i).toNat)
    case atStart => exact ⟨0, 0, Nat.zero_le _, rfl, TW.hide (by intro j h; omega), rfl⟩
    case round =>
      obtain ⟨k, q, hk, rfl, HE, rfl⟩ := hrel
      by_cases hlt : k < len
      · have hc := H1.out k hlt
        obtain ⟨z, hz⟩ : ∃ z, zs.getD k 0 = z := ⟨_, rfl⟩
        rw [hz] at hc
        have HZ := TW.hide hz
        clear hz
        by_cases hzy : z = 0
        · have ht : (z != 0) = false := by simp [hzy]
          have HY := TW.hide hzy
          clear hzy
          go_wp2
          refine ⟨⟨k + 1, q, by omega, by go_num, TW.hide ?_, rfl⟩, by simp [intOf]; omega⟩
          intro j hj
          rcases Nat.lt_or_ge j k with h | h
          · exact HE.out j h
          · obtain rfl : j = k := by omega
            rw [HZ.out, HY.out]
        · have ht : (z != 0) = true := by simp [hzy]
          have HY := TW.hide hzy
          clear hzy
          go_wp2_with fail
          refine (HC.out _).mono ?_
          rintro e1 w1 ⟨v1, rfl, ho, hb⟩
          have HO := TW.hide ho
          have HB := TW.hide hb
          clear ho hb
          go_wp2
          go_ret
          refine ⟨_, rfl, ?_, (⟨rfl, rfl, rfl, Nat.le_refl _, fun _ _ => rfl⟩ : Below w.heap.size w (w.drewN q)).trans HB.out⟩
          rw [kpL_some (by rw [HN.out]; exact hlt) (by rw [HZ.out]; exact HY.out), HN.out]
          exact HO.out
      · have HK := TW.hide hk
        go_wp2
        go_ret
        refine ⟨_, rfl, ?_, ⟨rfl, rfl, rfl, Nat.le_refl _, fun _ _ => rfl⟩⟩
        rw [kpL_none (fun i hi => HE.out i (by have := HN.out; omega))]
        exact World.ownsRow_nil _ _ _ _
theorem kept0 (a : Option Addr) (cap : Nat) (w : World) :
    Calls Try.prog 24 #[.slice a 0 cap] w (KpP w []) := by
  go_enter Try.func24, Try.ntmps24
  go_wp2
  go_loop [3, 4, 5] (fun v b i => v = .slice none 0 0 ∧ b = .bool false ∧ i = .int .i64 0) (fun _ _ _ => 0)
  case atStart => exact ⟨rfl, rfl, rfl⟩
  case round =>
    obtain ⟨rfl, rfl, rfl⟩ := hrel
    go_wp2
    go_ret
    exact ⟨_, rfl, World.ownsRow_nil _ _ _ _, Below.refl _ _⟩
/-- Whether one of the first k is no nought. -/
def smL (zs : List Int) (k : Nat) : Bool := (zs.take k).any (fun z => decide (z ≠ 0))
theorem smL_step {zs : List Int} {k : Nat} (h : k < zs.length) : smL zs (k + 1) = (smL zs k || decide (zs.getD k 0 ≠ 0)) := by
  unfold smL
  rw [take_snoc _ _ h, List.any_append]
  simp
theorem kpL_sm (zs : List Int) : kpL zs = if smL zs zs.length = true then zs else [] := by
  unfold kpL smL
  rw [List.take_length]
  by_cases h : zs.all (fun z => decide (z = 0)) = true
  · rw [if_pos h, if_neg]
    intro h2
    rw [List.all_eq_true] at h
    rw [List.any_eq_true] at h2
    obtain ⟨x, hx, hy⟩ := h2
    have := h x hx
    simp at this hy
    exact hy this
  · rw [if_neg h, if_pos]
    rw [List.any_eq_true]
    apply Classical.byContradiction
    intro h3
    apply h
    rw [List.all_eq_true]
    intro x hx
    apply Classical.byContradiction
    intro h4
    exact h3 ⟨x, hx, by simpa using h4⟩
set_option maxRecDepth 20000 in
set_option maxHeartbeats 1000000 in
theorem kept_ (a : Option Addr) (cap : Nat) (zs : List Int) (w : World) (hr : Row w a zs) (hm : zs.length ≤ 140737488355328) :
    Calls Try.prog 24 #[.slice a zs.length cap] w (KpP w zs) := by
  obtain ⟨i0, hi, hz0, hz1, hz2⟩ := info_parts info5
  rcases hr with rfl | ⟨b, off, rfl, hcell⟩
  · exact kept0 _ _ _
  · obtain ⟨len, hlen⟩ : ∃ len, zs.length = len := ⟨_, rfl⟩
    have hs : ∀ k, k < len → zs.take (k + 1) = zs.take k ++ [zs.getD k 0] := fun k h => take_snoc _ _ (by omega)
    have hq : ∀ k, k < len → smL zs (k + 1) = (smL zs k || decide (zs.getD k 0 ≠ 0)) := fun k h => smL_step (by omega)
    have ht : ∀ k, k ≤ len → (zs.take k).length = k := fun k h => by rw [List.length_take]; omega
    rw [hlen] at hm hcell ⊢
    have H1 := TW.hide hcell
    have HN := TW.hide hlen
    have HS := TW.hide hs
    have HQ := TW.hide hq
    have HT := TW.hide ht
    clear hcell hlen hs hq ht
    go_enter Try.func24, Try.ntmps24
    go_wp2
    go_loopw [3, 4, 5] (fun v c i wr => ∃ (k : Nat), k ≤ len ∧ i = .int .i64 k ∧ c = .bool (smL zs k) ∧ Hid (wr.ownsRow w.heap.size 5 1 v k (vs (zs.take k))) ∧ Hid (Below w.heap.size w wr)) (fun _ _ i _ => len - (intOf i).toNat)
    case atStart => exact ⟨0, Nat.zero_le _, rfl, rfl, World.ownsRow_nil _ _ _ _, Below.refl _ _⟩
    case round =>
      obtain ⟨k, hk, rfl, rfl, HO, HB⟩ := hrel
      by_cases hlt : k < len
      · have hc := H1.out k hlt
        have hc2 : wr.cell? ⟨b, off + k, none⟩ = some (.int .u8 (zs.getD k 0)) := by rw [HB.out.cell (lt_of_cell hc)]; exact hc
        have hs := TW.hide (HS.out k hlt)
        have hq := TW.hide (HQ.out k hlt)
        have HF : ∀ w2, Below w.heap.size w w2 → w2.cell? ⟨b, off + k, none⟩ = some (.int .u8 (zs.getD k 0)) := fun w2 h => by rw [h.cell (lt_of_cell hc)]; exact hc
        have HF2 := TW.hide HF
        clear hc HF
        generalize zs.getD k 0 = z at *
        have HSZ : Hid (w.heap.size ≤ wr.heap.size) := HB.out.size
        go_wp2_with (at_builtin; refine wpList_append_own _ rfl _ _ 24 rfl w.heap.size 5 i0 (.int .u8 0) 1 1 Try.underlying24 hi hz0 hz1 hz2 rfl (by decide) _ k _ rfl (HO.out.alloc _) ⟨wr.heap.size, 0, none⟩ 1 1 [.int .u8 z] ?c6 rfl ?c1 ?c2 ?c3 ?c4 ?c5 ?_)
        case c6 => rfl
        case c1 => exact one_new _ _
        case c2 => intro u hu; simp at hu; subst hu; rfl
        case c3 => unfold maxLen; omega
        case c4 => omega
        case c5 => have := HB.out.size; simp; omega
        intro v' w2 hown' hgrow' _
        have hbel2 : Below w.heap.size w w2 := (HB.out.alloc HB.out.size _).grown hgrow' (by have := HB.out.size; simp; omega) (own_block HO.out)
        have H1 : Hid (w2.ownsRow w.heap.size 5 1 v' (k + 1) (vs (zs.take (k + 1)))) := by
          show w2.ownsRow _ _ _ _ _ _
          rw [hs.out, vs_append]; exact hown'
        have H2 := TW.hide hbel2
        have hc3 := HF2.out w2 hbel2
        clear hown' hgrow' hbel2 hc2
        cases hsm : smL zs k
        · rw [hsm] at hq
          by_cases hzy : z = 0
          · have ht : (z != 0) = false := by simp [hzy]
            have HY := TW.hide hzy
            have HM := TW.hide hsm
            clear hzy hsm
            go_wp2
            refine ⟨⟨k + 1, by omega, by go_num, ?_, H1, H2⟩, by simp [intOf]; omega⟩
            rw [hq.out, HY.out]; rfl
          · have ht : (z != 0) = true := by simp [hzy]
            have HY := TW.hide hzy
            have HM := TW.hide hsm
            clear hzy hsm
            go_wp2
            refine ⟨⟨k + 1, by omega, by go_num, ?_, H1, H2⟩, by simp [intOf]; omega⟩
            rw [hq.out, decide_eq_true HY.out]; rfl
        · rw [hsm] at hq
          have HM := TW.hide hsm
          clear hsm
          go_wp2
          refine ⟨⟨k + 1, by omega, by go_num, ?_, H1, H2⟩, by simp [intOf]; omega⟩
          rw [hq.out]; rfl
      · obtain rfl : k = len := by omega
        have HP := TW.hide (kpL_sm zs)
        rw [HN.out] at HP
        have HTL : Hid (zs.take k = zs) := List.take_of_length_le (by rw [HN.out]; exact Nat.le_refl _)
        rw [HTL.out] at HO
        cases hsm : smL zs k
        · rw [hsm] at HP
          clear hsm
          go_wp2
          go_ret
          refine ⟨_, rfl, ?_, HB.out⟩
          rw [HP.out]
          exact World.ownsRow_nil _ _ _ _
        · rw [hsm] at HP
          clear hsm
          go_wp2
          go_ret
          refine ⟨_, rfl, ?_, HB.out⟩
          rw [HP.out, if_pos trivial, HN.out]
          exact HO.out
end LW
end Go.Proofs.Ytahmjdnnkifmnaa
