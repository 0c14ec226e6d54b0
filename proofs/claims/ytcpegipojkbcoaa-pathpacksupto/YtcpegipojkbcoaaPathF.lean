/-
  A path as an argument, and the law's frame: PathArgs, PackF in one.
-/
import Derived.Test.YtcpegipojkbcoaaRows
import Derived.Test.YtcpegipojkbcoaaTreeArgs
import Derived.Test.YtcpegipojkbcoaaNumArgs
import Derived.Test.YtcpegipojkbcoaaRPack
import Derived.Deep.Matrix
import Derived.Deep.SlicePairs
import Derived.SizedLaws
import Derived.ProofKit
import Derived.OpenShut
import Derived.ChangeOld
import Derived.Test.YtcpegipojkbcoaaPacksW
namespace Go.Proofs.Ytcpegipojkbcoaa
open Go.ChangeShapes Go.WideShapes Go.ChangeAt Go.RowKit Go.Deep
set_option linter.unusedVariables false
namespace LW
open Words
theorem bulk_append {H : Type} (a b : List (DataW H)) : Rows.uptoBulkAll (a ++ b) = Rows.uptoBulkAll a + Rows.uptoBulkAll b := by
  induction a with
  | nil => simp [Rows.uptoBulkAll]
  | cons x a ih => simp only [List.cons_append, Rows.uptoBulkAll, ih]; omega
theorem bulk_lits {H : Type} (k : IntKind) (zs : List Int) : Rows.uptoBulkAll (lits (H := H) k zs) = zs.length := by
  induction zs with
  | nil => rfl
  | cons z zs ih =>
    have e : lits (H := H) k (z :: zs) = .lit (.int k z) :: lits k zs := rfl
    rw [e]
    simp only [Rows.uptoBulkAll, Rows.uptoBulk, ih, List.length_cons]; omega
theorem bulk_sum {H : Type} (f : Nat → DataW H) (g : Nat → Nat) (N : Nat) (h : ∀ r, r < N → g r ≤ Rows.uptoBulk (f r)) : ((List.range N).map g).sum ≤ Rows.uptoBulkAll ((List.range N).map f) := by
  induction N with
  | zero => simp [Rows.uptoBulkAll]
  | succ N ih =>
    have h1 := ih fun r hr => h r (by omega)
    have h2 := h N (by omega)
    rw [List.range_succ, List.map_append, List.map_append, bulk_append, List.sum_append]
    simp only [List.map_cons, List.map_nil, Rows.uptoBulkAll, List.sum_cons, List.sum_nil]
    omega
theorem spot_none {w : World} {a : Addr} {v : Value} (h : w.cell? (a.add 0) = some v) : ∃ b off, a = ⟨b, off, none⟩ := by
  obtain ⟨b, off, spot⟩ := a
  have : spot = none := by simpa [Addr.add] using World.cell?_spot h
  subst this
  exact ⟨b, off, rfl⟩
theorem add_none (b off r : Nat) : (⟨b, off, none⟩ : Addr).add r = ⟨b, off + r, none⟩ := by
  unfold Addr.add; split <;> simp_all
theorem sum_succ (g : Nat → Nat) (N : Nat) : ((List.range N).map fun r => g r + 1).sum = ((List.range N).map g).sum + N := by
  induction N with
  | zero => rfl
  | succ N ih =>
    rw [List.range_succ, List.map_append, List.map_append, List.sum_append, List.sum_append, ih]
    simp only [List.map_cons, List.map_nil, List.sum_cons, List.sum_nil]
    omega
/-- A list of rows of bytes. -/
theorem open_lists {H : Type} {enc : TypeId × Value → H} {W : World} {v : Value} {n : Nat} {y : DataW H × List MemPlace}
    (h : DataW.trod enc Try.prog W 0 (fun _ => true) true n 63 [v] = some y) :
    ∃ (a : Option Addr) (c : Nat) (ls : List (List Int)), v = .slice a ls.length c ∧ Ls W a ls ∧ ls.flatten.length + ls.length + 1 ≤ Rows.uptoBulk y.1 := by
  rcases open_int_rows Try.underlying63 Try.underlying24 Try.underlying5 (by kernel_rfl) (by kernel_rfl) h with ⟨hcs, hx⟩ | ⟨a', l', c', A, L, C, Z, hcs, _, hl, hm, hx, hall⟩
  · simp at hcs
    exact ⟨none, 0, [], hcs, .inl rfl, by rw [hx]; simp [Rows.uptoBulk]⟩
  · simp at hcs
    have hd := congrArg Prod.fst hx
    dsimp only at hd
    have hlen : ∀ r, r < l' → ((Z r).take (L r)).length = L r := fun r hr => by
      obtain ⟨_, h2, _, h4, _⟩ := hall r (by omega)
      rw [List.length_take, h4]; omega
    have hge : ∀ r, r < l' → ((List.range l').map fun r => (Z r).take (L r)).getD r [] = (Z r).take (L r) := fun r hr => by simp [List.getD_eq_getElem?_getD, hr]
    have hsum := bulk_sum (fun r => intRow (H := H) .u8 (A r) (L r) (Z r)) (fun r => ((Z r).take (L r)).length + 1) l' (fun r hr => by
      rw [hlen r hr]
      obtain ⟨_, h2, _, h4, _, h6, _⟩ := hall r (by omega)
      unfold intRow
      cases hA : A r with
      | none =>
        have := h6 hA
        simp only [Rows.uptoBulk]; omega
      | some a'' =>
        simp only [Rows.uptoBulk, bulk_lits, List.length_take, h4]; omega)
    rw [sum_succ] at hsum
    refine ⟨some a', c', (List.range l').map fun r => (Z r).take (L r), by rw [hcs, List.length_map, List.length_range], ?_, ?_⟩
    · rcases Nat.eq_zero_or_pos l' with h0 | h0
      · left; rw [h0]; rfl
      · obtain ⟨b, off, rfl⟩ := spot_none (hall 0 (by omega)).1
        refine .inr ⟨b, off, rfl, fun r hr => ?_⟩
        rw [List.length_map, List.length_range] at hr
        rw [hge r hr]
        obtain ⟨h1, h2, _, h4, h5, h6, h7⟩ := hall r (by omega)
        rw [add_none] at h1
        refine ⟨A r, C r, by rw [hlen r hr]; exact h1, ?_⟩
        rcases Nat.eq_zero_or_pos (L r) with h0 | h0
        · left; rw [h0]; rfl
        · cases hA : A r with
          | none => have := h6 hA; omega
          | some a'' =>
            obtain ⟨_, h8⟩ := h7 a'' hA
            obtain ⟨b', off', rfl⟩ := spot_none (h8 0 (by omega))
            refine .inr ⟨b', off', rfl, fun i hi => ?_⟩
            rw [hlen r hr] at hi
            have h9 := h8 i (by omega)
            rw [add_none] at h9
            rw [h9]
            simp [List.getD_eq_getElem?_getD, hi]
    · rw [hd]
      simp only [Rows.uptoBulk]
      rw [List.length_flatten, List.map_map, List.length_map, List.length_range]
      have : (List.length ∘ fun r => (Z r).take (L r)) = fun r => ((Z r).take (L r)).length := rfl
      rw [this]
      omega
/-- What a step holds. -/
def hdS (s : Stp) : Nat := s.1.flatten.length + s.1.length + (s.2.flatten.length + s.2.length)
theorem flA_len (ss : List Stp) : (flA ss).length ≤ (ss.map hdS).sum := by
  induction ss with
  | nil => simp [flA]
  | cons s ss ih =>
    unfold flA at *
    simp only [List.map_cons, List.flatten_cons, List.length_append, List.sum_cons]
    unfold flS hdS at *
    rw [List.length_append]
    omega
theorem le_sum {ss : List Stp} {s : Stp} (h : s ∈ ss) : hdS s ≤ (ss.map hdS).sum := by
  induction ss with
  | nil => cases h
  | cons x ss ih =>
    simp only [List.map_cons, List.sum_cons]
    rcases List.mem_cons.1 h with rfl | h
    · omega
    · have := ih h; omega
theorem row_le {ls : List (List Int)} (r : Nat) : (ls.getD r []).length ≤ ls.flatten.length := by
  rcases Nat.lt_or_ge r ls.length with h | h
  · have h1 := flat_snoc ls r h
    have h2 := flat_le ls (r + 1)
    rw [h1, List.length_append] at h2
    omega
  · rw [List.getD_eq_getElem?_getD, List.getElem?_eq_none h]
    simp
theorem SB_of {ss : List Stp} (h1 : ss.length ≤ 1048576) (h2 : (ss.map hdS).sum ≤ 1048576) : SB ss := by
  refine ⟨h1, fun i => ?_⟩
  rcases Nat.lt_or_ge i ss.length with h | h
  · have hm : ss.getD i ([], []) ∈ ss := by
      rw [List.getD_eq_getElem?_getD, List.getElem?_eq_getElem h]
      exact List.getElem_mem h
    have h3 := Nat.le_trans (le_sum hm) h2
    unfold hdS at h3
    exact ⟨⟨by omega, fun r => by have := row_le (ls := (ss.getD i ([], [])).1) r; omega⟩, ⟨by omega, fun r => by have := row_le (ls := (ss.getD i ([], [])).2) r; omega⟩⟩
  · rw [List.getD_eq_getElem?_getD, List.getElem?_eq_none h]
    exact ⟨⟨by simp, fun r => by simp⟩, ⟨by simp, fun r => by simp⟩⟩
/-- The steps of a path. -/
theorem open_steps {H : Type} {enc : TypeId × Value → H} {W : World} {v : Value} {n : Nat} {y : DataW H × List MemPlace}
    (h : DataW.trod enc Try.prog W 0 (fun _ => true) true n 35 [v] = some y) :
    ∃ (a : Option Addr) (c : Nat) (ss : List Stp), v = .slice a ss.length c ∧ Sts W a ss ∧ (ss.map hdS).sum + ss.length + 1 ≤ Rows.uptoBulk y.1 := by
  rcases open_slice_pairs Try.underlying35 Try.underlying65 (by kernel_rfl) rfl rfl (by kernel_rfl) (by kernel_rfl) h with ⟨hcs, hx⟩ | ⟨a, len, cap, m, n', V0, V1, D0, D1, P0, P1, hcs, _, hl, hm, hmm, hx, hall⟩
  · simp at hcs
    exact ⟨none, 0, [], hcs, .inl rfl, by rw [hx]; simp [Rows.uptoBulk]⟩
  · simp at hcs hmm
    have hd := congrArg Prod.fst hx
    dsimp only at hd
    obtain ⟨f, hf⟩ := choose_lt (α := Stp) (n := len) (p := fun i s => ∃ A K A' K', W.cell? (a.add (i * 2)) = some (.slice A s.1.length K) ∧ W.cell? (a.add (i * 2 + 1)) = some (.slice A' s.2.length K') ∧ Ls W A s.1 ∧ Ls W A' s.2 ∧ hdS s + 1 ≤ Rows.uptoBulk (DataW.agg [D0 i, D1 i])) (fun i hi => by
      obtain ⟨h1, h2, h3, h4⟩ := hall i (by omega)
      obtain ⟨A, K, l1, e1, s1, b1⟩ := open_lists h3
      obtain ⟨A', K', l2, e2, s2, b2⟩ := open_lists h4
      refine ⟨(l1, l2), A, K, A', K', by rw [h1, e1], by rw [h2, e2], s1, s2, ?_⟩
      unfold hdS
      simp only [Rows.uptoBulk, Rows.uptoBulkAll]
      dsimp only at b1 b2 ⊢
      omega)
    have hge : ∀ i, i < len → ((List.range len).map f).getD i ([], []) = f i := fun i hi => by simp [List.getD_eq_getElem?_getD, hi]
    have hsum := bulk_sum (fun i => DataW.agg [D0 i, D1 i]) (fun i => hdS (f i) + 1) len (fun i hi => by obtain ⟨_, _, _, _, _, _, _, _, hb⟩ := hf i hi; exact hb)
    rw [sum_succ] at hsum
    refine ⟨some a, cap, (List.range len).map f, by rw [hcs, List.length_map, List.length_range], ?_, ?_⟩
    · rcases Nat.eq_zero_or_pos len with h0 | h0
      · left; rw [h0]; rfl
      · obtain ⟨A, K, A', K', k1, _⟩ := hf 0 h0
        rw [Nat.zero_mul] at k1
        obtain ⟨b, off, rfl⟩ := spot_none k1
        refine .inr ⟨b, off, rfl, fun i hi => ?_⟩
        rw [List.length_map, List.length_range] at hi
        rw [hge i hi]
        obtain ⟨A, K, A', K', k1, k2, k3, k4, _⟩ := hf i hi
        rw [add_none] at k1 k2
        exact ⟨A, K, A', K', k1, by rw [Nat.add_assoc]; exact k2, k3, k4⟩
    · rw [hd]
      simp only [Rows.uptoBulk]
      rw [List.map_map, List.length_map, List.length_range]
      have : (hdS ∘ f) = fun i => hdS (f i) := rfl
      rw [this]
      omega
theorem array3 {α : Type} {cs : Array α} (h : cs.size = 3) : ∃ c0 c1 c2, cs = #[c0, c1, c2] := by
  obtain ⟨l⟩ := cs
  match l, h with
  | [c0, c1, c2], _ => exact ⟨c0, c1, c2, rfl⟩
theorem cellsPath : Try.prog.cellsOf 37 = 3 := by kernel_rfl
theorem cellsU64 : Try.prog.cellsOf 27 = 1 := by kernel_rfl
theorem cellsSt : Try.prog.cellsOf 35 = 1 := by kernel_rfl
set_option maxRecDepth 100000 in
/-- A path. -/
theorem open_path {H : Type} {enc : TypeId × Value → H} {W : World} {r : Reach} {b0 : Nat} {v : Value} {d : DataW H} {p : List MemPlace}
    (hv : Value.okWide Try.prog W r b0 37 v) (h : DataW.Trod enc Try.prog W 0 (fun _ => true) true 37 v d p) (hB : Rows.uptoBulk d ≤ 1048576) :
    ∃ (t l : Nat) (a : Option Addr) (c : Nat) (ss : List Stp), v = .agg (paC t l a ss.length c) ∧ t < 18446744073709551616 ∧ l < 18446744073709551616 ∧ Sts W a ss ∧ SB ss ∧ (flA ss).length ≤ 1048576 := by
  obtain ⟨cs, rfl, hsz⟩ := okWide_struct Try.underlying37 hv
  obtain ⟨c0, c1, c2, rfl⟩ := array3 (hsz.trans cellsPath)
  obtain ⟨fuel, hf⟩ := h
  obtain ⟨xs, n, _, hx, _, hlen, hg⟩ := DataW.trod_struct Try.underlying37 hf
  match xs, hlen with
  | [y0, y1, y2], _ =>
    have h0 := hg 0 _ rfl
    have h1 := hg 1 _ rfl
    have h2 := hg 2 _ rfl
    simp only [Value.cells] at h0 h1 h2
    replace h0 : DataW.trod enc Try.prog W 0 (fun _ => true) true n 27 [c0] = some y0 := by simpa [cellsU64] using h0
    replace h1 : DataW.trod enc Try.prog W 0 (fun _ => true) true n 27 [c1] = some y1 := by simpa [cellsU64] using h1
    replace h2 : DataW.trod enc Try.prog W 0 (fun _ => true) true n 35 [c2] = some y2 := by simpa [cellsSt] using h2
    obtain ⟨v0, e0, rfl, w0⟩ := DataW.trod_int Try.underlying27 h0
    obtain ⟨v1, e1, rfl, w1⟩ := DataW.trod_int Try.underlying27 h1
    obtain ⟨a, c, ss, rfl, hS, hb⟩ := open_steps h2
    simp at e0 e1
    subst e0 e1
    obtain ⟨t, rfl, ht⟩ := u64_nat w0
    obtain ⟨l, rfl, hl⟩ := u64_nat w1
    have hd := congrArg Prod.fst hx
    dsimp only at hd
    rw [hd] at hB
    simp only [List.map_cons, List.map_nil, Rows.uptoBulk, Rows.uptoBulkAll] at hB
    have hfl := flA_len ss
    exact ⟨t, l, a, c, ss, rfl, ht, hl, hS, SB_of (by omega) (by omega), by omega⟩
end LW
end Go.Proofs.Ytcpegipojkbcoaa
namespace Go.Proofs.Ytcpegipojkbcoaa
open Go.ChangeShapes Go.WideShapes Go.ChangeAt Go.RowKit Go.Deep
set_option linter.unusedVariables false
namespace LW
set_option maxRecDepth 100000 in
theorem packsF {H : Type} {enc : TypeId × Value → H} {r r1 r2 : Reach} {b0 b1 b2 : Nat} {d0 d1 d2 : DataW H} {p0 p1 p2 : List MemPlace} (HPS : PSize) (HPP : PPack) (HPU : PUnpack) (v0 v1 v2 : Value) (W : World)
    (hv0 : Value.okWide Try.prog W r b0 26 v0) (h0 : DataW.Trod enc Try.prog W 0 (fun _ => true) true 26 v0 d0 p0) (hB0 : Rows.uptoBulk d0 ≤ 1048576)
    (hv1 : Value.okWide Try.prog W r1 b1 37 v1) (h1 : DataW.Trod enc Try.prog W 0 (fun _ => true) true 37 v1 d1 p1) (hB1 : Rows.uptoBulk d1 ≤ 1048576)
    (hv2 : Value.okWide Try.prog W r2 b2 24 v2) (h2 : DataW.Trod enc Try.prog W 0 (fun _ => true) true 24 v2 d2 p2) (hB2 : Rows.uptoBulk d2 ≤ 1048576) :
    Calls Try.prog 4 #[v0, v1, v2] W fun e w' => e = .returned (.bool true) ∧ Below W.heap.size W w' := by
  obtain ⟨T, s, t, rfl, hT, _⟩ := open_tree hv0 h0
  obtain ⟨t, l, a, c, ss, rfl, ht, hl, hS, hB, hF⟩ := open_path hv1 h1 hB1
  obtain ⟨fuel, hf⟩ := h2
  obtain ⟨b, len, cap, rfl⟩ := okWide_slice Try.underlying24 hv2
  obtain ⟨a', cap', zs, e, hz, hr, hn, hm, hd⟩ := open_bytes1 (v := .slice b len cap) (by simpa [Value.cells] using hf)
  cases e
  have hzl : zs.length ≤ 1048576 := by
    rcases hd with ⟨_, h⟩ | ⟨sp, h⟩
    · omega
    · dsimp only at h
      rw [h] at hB2
      simp only [Rows.uptoBulk, bulk_lits] at hB2
      omega
  have hcap : zs.length ≤ cap := by
    rcases open_ints Try.underlying24 Try.underlying5 (by kernel_rfl) (show DataW.trod enc Try.prog W 0 (fun _ => true) true fuel 24 [.slice b zs.length cap] = some _ by simpa [Value.cells] using hf) with ⟨hcs, hx⟩ | ⟨x, l, c, zs', hcs, _, hl, _⟩
    · simp at hcs
      simp [hcs]
    · simp at hcs
      omega
  exact packsW HPS HPP HPU T t l a c ss _ _ zs W hT ht hl hS hB hF hz hr hzl hcap
end LW
end Go.Proofs.Ytcpegipojkbcoaa
