/-
  What the calls store, Store32, Store64 (the program) and Store (the document) give, for every word.
-/
import Derived.Test.YtecepllidmkmhaaDoorSame
namespace Go.Proofs.YtecepllidmkmhaaDoor
open Go.RowKit
set_option linter.unusedVariables false
namespace LW
open Words

theorem info5 : (Tryd.prog.info? 5).map (fun i => (i.zero, i.size, i.bytes)) = some (some (.int .u8 0), 1, 1) := by kernel_rfl

/-- The cells of a row of bytes. -/
def vs (zs : List Int) : List Value := zs.map (Value.int .u8)
theorem vs_append (a b : List Int) : vs (a ++ b) = vs a ++ vs b := by simp [vs]
theorem vs_length (a : List Int) : (vs a).length = a.length := by simp [vs]
theorem vs_get (zs : List Int) (i : Nat) (h : i < zs.length) : (vs zs)[i]? = some (.int .u8 (zs.getD i 0)) := by
  simp [vs, List.getD_eq_getElem?_getD, List.getElem?_eq_getElem h]
/-- What a call owns is a row that can be read. -/
theorem row_of_own {w : World} {B : Nat} {v : Value} {zs : List Int} (h : w.ownsRow B 5 1 v zs.length (vs zs)) : ∃ a cap, v = .slice a zs.length cap ∧ Row w a zs ∧ zs.length ≤ maxLen := by
  rcases h.2 with ⟨rfl, h0⟩ | ⟨g, cap, cur, rfl, hg, hh, hn, hm, hc, ht⟩
  · exact ⟨none, 0, by rw [h0], .inl (List.length_eq_zero_iff.1 h0), by rw [h0]; simp [maxLen]⟩
  · refine ⟨_, cap, rfl, .inr ⟨g, 0, rfl, fun i hi => ?_⟩, by omega⟩
    rw [Nat.zero_add, h.cellAt i (by omega), vs_get zs i hi]
theorem Row.below {w w' : World} {a : Option Addr} {zs : List Int} (h : Row w a zs) (hb : Below w.heap.size w w') : Row w' a zs := by
  rcases h with h | ⟨b, off, rfl, hc⟩
  · exact .inl h
  · refine .inr ⟨b, off, rfl, fun i hi => ?_⟩
    rw [hb.cell (lt_of_cell (hc i hi))]
    exact hc i hi
theorem own_block {w : World} {B n : Nat} {v : Value} {xs : List Value} (h : w.ownsRow B 5 1 v n xs) : ∀ k, v.ownBlock = some k → B ≤ k := by
  intro k hk
  rcases h.2 with ⟨rfl, _⟩ | ⟨g, cap, cur, rfl, hg, _⟩
  · simp [Value.ownBlock] at hk
  · simp [Value.ownBlock] at hk; omega
theorem one_new (w : World) (z : Value) : ∀ (j : Nat) (u : Value), [z][j]? = some u → (w.alloc (.cells #[z] 5)).cell? ((⟨w.heap.size, 0, none⟩ : Addr).add j) = some u := by
  intro j u hj
  match j, hj with
  | 0, hj => simp at hj; subst hj; simp [Addr.add]
theorem Row.drewN {w : World} {a : Option Addr} {zs : List Int} (h : Row w a zs) (q : Nat) : Row (w.drewN q) a zs := h

theorem made_vs (n : Nat) : (madeCells (Value.int .u8 0).cells (n * 1)).toList = vs (List.replicate n 0) := by
  have e : (Value.int .u8 0).cells = #[.int .u8 0] := rfl
  rw [e]
  simp [madeCells, vs, Nat.mod_one, List.map_const']
theorem set_vs (v : Int) (n k : Nat) (h : k < n) : (vs (un v k ++ List.replicate (n - k) 0)).set k (.int .u8 (v / 2 ^ (8 * k) % 256)) = vs (un v (k + 1) ++ List.replicate (n - (k + 1)) 0) := by
  have e : n - k = n - (k + 1) + 1 := by omega
  have hp : (2 : Int) ^ (8 * k) = 256 ^ k := by rw [Int.pow_mul]; rfl
  rw [vs_append, List.set_append_right _ _ (by rw [vs_length, un_length]; omega), vs_length, un_length, Nat.sub_self, e, List.replicate_succ]
  rw [un_snoc, hp]
  simp [vs]

set_option maxHeartbeats 400000 in
theorem store (v : Int) (n : Nat) (w : World) (hv0 : 0 ≤ v) (hv1 : v < 18446744073709551616) (hn : n ≤ 8) :
    Calls Tryd.prog 47 #[.int .u64 v, .int .i64 n] w fun e w' =>
      ∃ a cap, e = .returned (.slice a n cap) ∧ Row w' a (un v n) ∧ Below w.heap.size w w' := by
  obtain ⟨i0, hi, hz0, hz1, hz2⟩ := info_parts info5
  go_enter Tryd.func47, Tryd.ntmps47
  go_wp2_with (at_make; refine wpList_make_full _ rfl _ _ 22 rfl w.heap.size 5 i0 (.int .u8 0) 1 Tryd.underlying22 hi hz0 hz1 _ _ _ _ n rfl rfl rfl rfl (by rw [hz2]; omega) (by unfold maxLen; omega) (by omega) ?_; intro w1 hown hgrow)
  have hown1 : w1.ownsRow w.heap.size 5 1 (.slice (some ⟨w.heap.size, 0, none⟩) n n) n (vs (List.replicate n 0)) := by
    rw [← made_vs]; exact hown
  have hbel : Below w.heap.size w w1 := (Below.refl _ _).grown hgrow (Nat.le_refl _) (by intro k h; cases h)
  have H1 := TW.hide hown1
  have H2 := TW.hide hbel
  clear hown hgrow hown1 hbel
  go_loopw [10] (fun i wr => ∃ k : Nat, k ≤ n ∧ i = .int .i64 k ∧ wr.ownsRow w.heap.size 5 1 (.slice (some ⟨w.heap.size, 0, none⟩) n n) n (vs (un v k ++ List.replicate (n - k) 0)) ∧ Below w.heap.size w wr) (fun i _ => n - (intOf i).toNat)
  case atStart => exact ⟨0, Nat.zero_le _, rfl, by simpa [un] using H1.out, H2.out⟩
  case round =>
    obtain ⟨k, hk, rfl, hown, hbel⟩ := hrel
    have HO := TW.hide hown
    have HB := TW.hide hbel
    clear hown hbel H1 H2
    by_cases hlt : k < n
    · have hc : ∃ z, wr.cell? ⟨w.heap.size, k, none⟩ = some z := by
        rw [HO.out.cellAt k (by omega)]
        exact ⟨_, List.getElem?_eq_getElem (by rw [vs_length]; simp [un_length]; omega)⟩
      obtain ⟨z, hc⟩ := hc
      have hf := HO.out.frozenAt k
      go_wp2
      go_roundw
      case rel => exact ⟨k + 1, by omega, by go_num, by rw [← set_vs v n k hlt]; exact (HO.out.stored k _).1, HB.out.setCell (Nat.le_refl _) _⟩
      case measure => simp [intOf]; omega
    · go_wp2
      go_ret
      obtain rfl : k = n := by omega
      have hown := HO.out
      rw [Nat.sub_self, List.replicate_zero, List.append_nil] at hown
      have hr := row_of_own (zs := un v k) (by rw [un_length]; exact hown)
      obtain ⟨a, cap, he, hrow, _⟩ := hr
      rw [un_length] at he
      exact ⟨a, cap, congrArg Ending.returned he, hrow, HB.out⟩
theorem store32 (v : Int) (w : World) (hv0 : 0 ≤ v) (hv1 : v < 4294967296) :
    Calls Tryd.prog 37 #[.int .u32 v] w fun e w' => ∃ a cap, e = .returned (.slice a 4 cap) ∧ Row w' a (un v 4) ∧ Below w.heap.size w w' := by
  have h := fun W => store v 4 W hv0 (by omega) (by omega)
  have H := TW.hide h
  clear h
  have hw : IntKind.u64.wrap v = v := by rw [IntKind.wrap_u64]; omega
  go_enter Tryd.func37, Tryd.ntmps37
  go_wp2_with fail
  refine (H.out _).mono ?_
  rintro e w1 ⟨a, cap, rfl, hrow, hbel⟩
  have H1 := TW.hide hrow
  have H2 := TW.hide hbel
  clear hrow hbel
  go_wp2_with fail
  go_ret
  exact ⟨a, cap, rfl, H1.out, H2.out⟩
end LW
end Go.Proofs.YtecepllidmkmhaaDoor
