/-
  What digests of the document gives: so many rows of bytes, cut out of one.
-/
import Derived.Test.YtcpegipojkbcoaaPathL
import Derived.Maps.AppendAt
namespace Go.Proofs.Ytcpegipojkbcoaa
open Go.RowKit
set_option linter.unusedVariables false
set_option linter.unusedSimpArgs false
namespace LW
open Words
/-- The i-th of the rows that are cut out. -/
def dg (zs : List Int) (at_ size i : Nat) : List Int := (zs.drop (at_ + i * size)).take size
def dgL (zs : List Int) (at_ size n : Nat) : List (List Int) := (List.range n).map (dg zs at_ size)
theorem dgL_len (zs : List Int) (at_ size n : Nat) : (dgL zs at_ size n).length = n := by simp [dgL]
theorem dgL_get (zs : List Int) (at_ size n r : Nat) (h : r < n) : (dgL zs at_ size n).getD r [] = dg zs at_ size r := by
  simp [dgL, List.getD_eq_getElem?_getD, h]
/-- Slices that a call owns, each a row of bytes of its own. -/
def EL (w : World) (B : Nat) (xs : List Value) (n : Nat) (f : Nat → List Int) : Prop := xs.length = n ∧ ∀ r, r < n → ∃ v, xs[r]? = some v ∧ w.ownsRow B 5 1 v (f r).length (vs (f r))
theorem EL.below {w w' : World} {B n : Nat} {xs : List Value} {f : Nat → List Int} (h : EL w B xs n f) (hb : Below w.heap.size w w') : EL w' B xs n f :=
  ⟨h.1, fun r hr => by obtain ⟨v, h1, h2⟩ := h.2 r hr; exact ⟨v, h1, ow_below h2 hb⟩⟩
theorem ow_grownBy {w w' : World} {row : Option Nat} {B n s : Nat} {t : TypeId} {v : Value} {xs : List Value} (h : w.ownsRow B t s v n xs) (hg : w.grownBy w' row) (hne : ∀ k, v.ownBlock = some k → row ≠ some k) : w'.ownsRow B t s v n xs := by
  rcases h.2 with ⟨rfl, h0⟩ | ⟨g, cap, cur, rfl, hg', hh, hn, hm, hc, ht⟩
  · exact ⟨h.1, .inl ⟨rfl, h0⟩⟩
  · exact ⟨h.1, .inr ⟨g, cap, cur, rfl, hg', ow_grown hh hg (hne g (by simp [Value.ownBlock])), hn, hm, hc, ht⟩⟩
/-- Rows of unlike elements lie in unlike blocks. -/
theorem ow_ne {w : World} {B B' n n' s s' : Nat} {t t' : TypeId} {v v' : Value} {xs xs' : List Value} (h : w.ownsRow B t s v n xs) (h' : w.ownsRow B' t' s' v' n' xs') (ht : t ≠ t') : ∀ k, v.ownBlock = some k → v'.ownBlock ≠ some k := by
  intro k hk hk'
  rcases h.2 with ⟨rfl, _⟩ | ⟨g, cap, cur, rfl, _, hh, _⟩
  · simp [Value.ownBlock] at hk
  rcases h'.2 with ⟨rfl, _⟩ | ⟨g', cap', cur', rfl, _, hh', _⟩
  · simp [Value.ownBlock] at hk'
  simp [Value.ownBlock] at hk hk'
  subst hk hk'
  have := hh.symm.trans hh'
  simp at this
  exact ht this.2
theorem EL.grown {w w' : World} {B B' n n' s' : Nat} {xs : List Value} {f : Nat → List Int} {t' : TypeId} {v' : Value} {ys : List Value} (h : EL w B xs n f) (ho : w.ownsRow B' t' s' v' n' ys) (ht : t' ≠ 5) (hg : w.grownBy w' v'.ownBlock) : EL w' B xs n f :=
  ⟨h.1, fun r hr => by obtain ⟨v, h1, h2⟩ := h.2 r hr; exact ⟨v, h1, ow_grownBy h2 hg (fun k hk => ow_ne h2 ho (Ne.symm ht) k hk)⟩⟩
theorem EL.more {w : World} {B n : Nat} {xs : List Value} {f : Nat → List Int} {v : Value} (h : EL w B xs n f) (hv : w.ownsRow B 5 1 v (f n).length (vs (f n))) : EL w B (xs ++ [v]) (n + 1) f := by
  refine ⟨by simp [h.1], fun r hr => ?_⟩
  rcases Nat.lt_or_ge r n with h1 | h1
  · obtain ⟨u, h2, h3⟩ := h.2 r h1
    exact ⟨u, by rw [List.getElem?_append_left (by rw [h.1]; exact h1)]; exact h2, h3⟩
  · obtain rfl : r = n := by omega
    exact ⟨v, by rw [List.getElem?_append_right (by rw [h.1]; omega), h.1]; simp, hv⟩
/-- Such a list is one that can be read. -/
theorem EL.ls {w : World} {B : Nat} {xs : List Value} {v : Value} {ls : List (List Int)} (h : EL w B xs ls.length (fun r => ls.getD r [])) (ho : w.ownsRow B 24 1 v ls.length xs) : ∃ a c, v = .slice a ls.length c ∧ Ls w a ls := by
  rcases ho.2 with ⟨rfl, h0⟩ | ⟨g, cap, cur, rfl, hg, hh, hn, hm, hc, ht⟩
  · exact ⟨none, 0, by rw [h0], .inl (List.length_eq_zero_iff.1 h0)⟩
  · refine ⟨_, cap, rfl, .inr ⟨g, 0, rfl, fun r hr => ?_⟩⟩
    obtain ⟨u, h1, h2⟩ := h.2 r hr
    obtain ⟨A, K, rfl, h3, _⟩ := row_of_own h2
    refine ⟨A, K, ?_, h3⟩
    rw [Nat.zero_add, ho.cellAt r (by omega), h1]
theorem u8sinfo : (Try.prog.info? 24).map (fun i => (i.zero, i.size, i.bytes)) = some (some (.slice none 0 0), 1, 24) := by kernel_rfl
theorem dg_len {zs : List Int} {at_ size n i : Nat} (h : at_ + n * size ≤ zs.length) (hi : i < n) : (dg zs at_ size i).length = size := by
  have : (i + 1) * size ≤ n * size := Nat.mul_le_mul_right _ hi
  rw [Nat.succ_mul] at this
  rw [dg, List.length_take, List.length_drop]
  omega
theorem dg_get {zs : List Int} {at_ size n i k : Nat} (h : at_ + n * size ≤ zs.length) (hi : i < n) (hk : k < size) : at_ + i * size + k < zs.length ∧ (dg zs at_ size i).take (k + 1) = (dg zs at_ size i).take k ++ [zs.getD (at_ + i * size + k) 0] := by
  have h1 : (i + 1) * size ≤ n * size := Nat.mul_le_mul_right _ hi
  rw [Nat.succ_mul] at h1
  refine ⟨by omega, ?_⟩
  rw [take_snoc _ _ (by rw [dg_len h hi]; exact hk)]
  congr 2
  simp [dg, List.getD_eq_getElem?_getD, List.getElem?_take, hk, List.getElem?_drop]
set_option maxRecDepth 100000 in
set_option maxHeartbeats 2000000 in
theorem digests (a : Option Addr) (cap : Nat) (zs : List Int) (at_ n size : Nat) (w : World) (hr : Row w a zs) (hz : zs.length ≤ 1048576) (hs0 : 0 < size) (hs : size ≤ 64) (h : at_ + n * size ≤ zs.length) :
    Calls Try.prog 32 #[.slice a zs.length cap, .int .i64 at_, .int .u64 n, .int .i64 size] w fun e w' => ∃ v xs, e = .returned v ∧ w'.ownsRow w.heap.size 24 1 v n xs ∧ EL w' w.heap.size xs n (dg zs at_ size) ∧ Below w.heap.size w w' := by
  have hnn : n ≤ 1048576 := by
    have := Nat.le_mul_of_pos_right n hs0
    omega
  have HD : Hid (∀ i, i < n → (dg zs at_ size i).length = size) := fun i hi => dg_len h hi
  have HT : Hid (∀ i k, i < n → k < size → at_ + i * size + k < zs.length ∧ (dg zs at_ size i).take (k + 1) = (dg zs at_ size i).take k ++ [zs.getD (at_ + i * size + k) 0]) := fun i k hi hk => dg_get h hi hk
  have HR := TW.hide hr
  have HRC : Hid (∀ (W : World) (j : Nat), Below w.heap.size w W → j < zs.length → ∃ b off, a = some ⟨b, off, none⟩ ∧ W.cell? ⟨b, off + j, none⟩ = some (.int .u8 (zs.getD j 0))) := by
    intro W j hW hj
    rcases hr.below hW with h1 | ⟨b, off, e, hc⟩
    · rw [h1] at hj; simp at hj
    · exact ⟨b, off, e, hc j hj⟩
  obtain ⟨i5, hi5, hz50, hz51, hz52⟩ := info_parts info5
  obtain ⟨i6, hi6, hz60, hz61, hz62⟩ := info_parts u8sinfo
  have HZ := TW.hide hz
  have HS := TW.hide hs
  generalize hF : dg zs at_ size = F at *
  clear hF hr h
  generalize hlen : zs.length = len at *
  clear hlen
  have hwn : IntKind.i64.wrap (n : Int) = (n : Int) := by rw [IntKind.wrap_i64]; omega
  go_enter Try.func32, Try.ntmps32
  go_wp2
  go_loopw [9, 10, 11, 12] (fun l i d k wr => ∃ (i' : Nat) (xs : List Value), i' ≤ n ∧ i = .int .i64 i' ∧ wr.ownsRow w.heap.size 24 1 l i' xs ∧ EL wr w.heap.size xs i' F ∧ Below w.heap.size w wr) (fun l i d k wr => n - (intOf i).toNat)
  case atStart => exact ⟨0, [], Nat.zero_le _, rfl, ⟨rfl, .inl ⟨rfl, rfl⟩⟩, ⟨rfl, fun r hr => by omega⟩, Below.refl _ _⟩
  case round =>
    obtain ⟨i, xs, hi, rfl, ho, he, hb⟩ := hrel
    have HO := TW.hide ho
    have HE := TW.hide he
    have HB := TW.hide hb
    clear ho he hb
    by_cases hlt : i < n
    · have hlI : (i : Int) < (n : Int) := by omega
      have hlen := HD.out i hlt
      have HLT := TW.hide hlt
      have hwb : w.heap.size ≤ wr.heap.size := HB.out.size
      have HWB := TW.hide hwb
      clear hlt hwb hi
      go_wp2
      generalize wr = W1 at *
      go_loopw [11, 12] (fun d k wr => ∃ k' : Nat, k' ≤ size ∧ k = .int .i64 k' ∧ wr.ownsRow W1.heap.size 5 1 d k' (vs ((F i).take k')) ∧ Below W1.heap.size W1 wr) (fun d k wr => size - (intOf k).toNat)
      case atStart => exact ⟨0, Nat.zero_le _, rfl, ⟨rfl, .inl ⟨rfl, rfl⟩⟩, Below.refl _ _⟩
      case round =>
        obtain ⟨k, hk, rfl, ho2, hb2⟩ := hrel
        have HO2 := TW.hide ho2
        have HB2 := TW.hide hb2
        clear ho2 hb2
        by_cases hkl : k < size
        · have hkI : (k : Int) < (size : Int) := by omega
          obtain ⟨t1, t2⟩ := HT.out i k HLT.out hkl
          obtain ⟨b, off, rfl, hc⟩ := HRC.out wr _ (HB.out.trans (HB2.out.mono HWB.out)) t1
          have HT2 := TW.hide t2
          clear t2
          generalize zs.getD (at_ + i * size + k) 0 = z at *
          have hz1 := HZ.out
          have hs1 := HS.out
          have e1 : IntKind.i64.wrap ((i : Int) * (size : Int)) = ((i * size : Nat) : Int) := by rw [← Int.natCast_mul, IntKind.wrap_i64]; omega
          have e2 : IntKind.i64.wrap ((at_ : Int) + ((i * size : Nat) : Int)) = ((at_ + i * size : Nat) : Int) := by rw [IntKind.wrap_i64]; omega
          have e3 : IntKind.i64.wrap (((at_ + i * size : Nat) : Int) + (k : Int)) = ((at_ + i * size + k : Nat) : Int) := by rw [IntKind.wrap_i64]; omega
          have h0 : (0 : Int) ≤ ((at_ + i * size + k : Nat) : Int) := by omega
          have h1 : ((at_ + i * size + k : Nat) : Int) < (len : Int) := by omega
          clear t1 hz1
          generalize at_ + i * size + k = j at *
          generalize at_ + i * size = j1 at *
          generalize i * size = j2 at *
          go_wp2_with (at_builtin; refine wpList_append_own _ rfl _ _ 24 rfl W1.heap.size 5 i5 (.int .u8 0) 1 1 Try.underlying24 hi5 hz50 hz51 hz52 rfl (by decide) _ _ _ rfl (HO2.out.alloc _) ⟨wr.heap.size, 0, none⟩ 1 1 [.int .u8 z] rfl rfl (cell_one_new _ _ _) (by simp [Value.oneCell']) (by simp [maxLen]; omega) (by omega) (by have := HB2.out.size; simp; omega) ?_; intro v' w5 hown' hgrow _; have HO5 := TW.hide hown'; have HG5 := TW.hide hgrow; clear hown' hgrow)
          have HB5 : Hid (Below W1.heap.size W1 w5) := (HB2.out.alloc HB2.out.size _).grown HG5.out (by have := HB2.out.size; simp; omega) (fun q h => ow_block HO2.out _ h)
          clear HG5
          go_wp2
          go_roundw
          case rel =>
            refine ⟨k + 1, by omega, by go_num, ?_, HB5.out⟩
            rw [HT2.out, vs_append]
            exact HO5.out
          case measure => simp [intOf]; omega
        · obtain rfl : k = size := by omega
          have HOF : Hid (wr.ownsRow w.heap.size 5 1 u11 (F i).length (vs (F i))) := by
            have h1 := ow_base HO2.out HWB.out
            rw [List.take_of_length_le (by rw [hlen]; exact Nat.le_refl _)] at h1
            rw [hlen]; exact h1
          have HO3 := TW.hide (ow_below HO.out HB2.out)
          have HE3 := TW.hide (HE.out.below HB2.out)
          have HB3 : Hid (Below w.heap.size w wr) := HB.out.trans (HB2.out.mono HWB.out)
          clear HO HE HB HO2 HB2
          obtain ⟨a5, c5, rfl, _, _⟩ := row_of_own HOF.out
          rw [hlen]
          rw [show Value.slice a5 (F i).length c5 = Value.slice a5 k c5 by rw [hlen]] at HOF
          go_wp2_with (at_builtin; refine wpList_append_own _ rfl _ _ 63 rfl w.heap.size 24 i6 (.slice none 0 0) 1 24 Try.underlying63 hi6 hz60 hz61 hz62 rfl (by decide) _ _ _ rfl (HO3.out.alloc _) ⟨wr.heap.size, 0, none⟩ 1 1 [.slice a5 k c5] rfl rfl (cell_one_new _ _ _) (by simp [Value.oneCell']) (by have := HLT.out; simp [maxLen]; omega) (by have := HLT.out; omega) (by have := HB3.out.size; simp; omega) ?_; intro v' w5 hown' hgrow _; have HO5 := TW.hide hown'; have HG5 := TW.hide hgrow; clear hown' hgrow)
          have HA : Below wr.heap.size wr (wr.alloc (.cells #[.slice a5 k c5] 24)) := (Below.refl _ _).alloc (Nat.le_refl _) _
          have HE5 : EL w5 w.heap.size xs i F := (HE3.out.below HA).grown (ow_below HO3.out HA) (by decide) HG5.out
          have HF5 : w5.ownsRow w.heap.size 5 1 (.slice a5 k c5) (F i).length (vs (F i)) := ow_grownBy (ow_below HOF.out HA) HG5.out (fun q hq => ow_ne (ow_below HOF.out HA) (ow_below HO3.out HA) (by decide) q hq)
          have HB5 : Below w.heap.size w w5 := (HB3.out.alloc HB3.out.size _).grown HG5.out (by have := HB3.out.size; simp; omega) (fun q h => ow_block HO3.out _ h)
          refine ⟨⟨i + 1, xs ++ [.slice a5 k c5], HLT.out, by go_num, HO5.out, HE5.more HF5, HB5⟩, by simp [intOf]; have := HLT.out; omega⟩
    · obtain rfl : i = n := by omega
      go_wp2
      go_ret
      exact ⟨_, xs, rfl, HO.out, HE.out, HB.out⟩
end LW
end Go.Proofs.Ytcpegipojkbcoaa
