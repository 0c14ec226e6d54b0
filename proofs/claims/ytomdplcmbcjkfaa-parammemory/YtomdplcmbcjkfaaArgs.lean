/-
  How a Field among a law's arguments is opened: its numbers, its bytes, and where they lie.
-/
import Derived.Test.YtomdplcmbcjkfaaRows
import Derived.Test.YtomdplcmbcjkfaaBase
import Derived.ProofKit
import Derived.OpenShut
import Derived.SizedLaws
import Derived.Lib.SmallJoins
namespace Go.Proofs.Ytomdplcmbcjkfaa
open Go.ChangeShapes Go.WideShapes Go.ChangeAt Go.RowKit Go.Joins
set_option linter.unusedVariables false
namespace LW
open Words
theorem open_bytes1 {H : Type} {enc : TypeId × Value → H} {W : World} {v : Value} {n : Nat} {y : DataW H × List MemPlace}
    (h : DataW.trod enc Try.prog W 0 (fun _ => true) true n 24 [v] = some y) :
    ∃ (a : Option Addr) (cap : Nat) (zs : List Int), v = .slice a zs.length cap ∧ Byt zs ∧ Row W a zs ∧ (a = none → cap = 0) ∧ zs.length ≤ maxLen ∧ ((y.1 = .nil ∧ zs.length = 0) ∨ ∃ sp, y.1 = .slice (lits .u8 zs) sp) := by
  rcases open_ints Try.underlying24 Try.underlying5 (by kernel_rfl) h with ⟨hcs, hx⟩ | ⟨x, l, c, zs, hcs, _, hl, hm, hz, hx, hcell, hwz⟩
  · simp at hcs
    exact ⟨none, 0, [], by rw [hcs]; rfl, Byt.nil, .inl rfl, fun _ => rfl, by simp [maxLen], .inl ⟨by rw [hx], rfl⟩⟩
  · simp at hcs
    have hz' : zs.length = c := by simpa using hz
    have hl' : (zs.take l).length = l := by simp; omega
    refine ⟨some x, c, zs.take l, by rw [hl', hcs], fun z hz => ?_, ?_, (fun h => by cases h), by rw [hl']; omega, .inr ⟨_, by rw [hx]⟩⟩
    · have := bounds_u8 (hwz z (List.mem_of_mem_take hz))
      omega
    · by_cases h0 : l = 0
      · subst h0; exact .inl rfl
      · obtain ⟨b, off, spot⟩ := x
        have hspot : spot = none := by simpa [Addr.add] using World.cell?_spot (hcell 0 (by omega))
        subst hspot
        refine .inr ⟨b, off, rfl, fun i hi => ?_⟩
        have hc := hcell i (by omega)
        have e : (⟨b, off, none⟩ : Addr).add i = ⟨b, off + i, none⟩ := by unfold Addr.add; split <;> simp_all
        rw [e] at hc
        rw [hc]
        have hi' : i < l := by omega
        simp [List.getD_eq_getElem?_getD, hi']
theorem array5 {α : Type} {cs : Array α} (h : cs.size = 5) : ∃ c0 c1 c2 c3 c4, cs = #[c0, c1, c2, c3, c4] := by
  obtain ⟨l⟩ := cs
  match l, h with
  | [c0, c1, c2, c3, c4], _ => exact ⟨c0, c1, c2, c3, c4, rfl⟩
theorem cells68 : Try.prog.cellsOf 28 = 5 := by kernel_rfl
theorem cells3 : Try.prog.cellsOf 3 = 1 := by kernel_rfl
theorem cells28 : Try.prog.cellsOf 23 = 1 := by kernel_rfl
theorem cells29 : Try.prog.cellsOf 24 = 1 := by kernel_rfl
theorem bytes5 : Try.prog.bytesOf 5 = 1 := by kernel_rfl
set_option maxRecDepth 100000 in
theorem open_field {H : Type} {enc : TypeId × Value → H} {W : World} {r : Reach} {b0 : Nat} {v : Value} {d : DataW H} {p : List MemPlace}
    (hv : Value.okWide Try.prog W r b0 28 v) (h : DataW.Trod enc Try.prog W 0 (fun _ => true) true 28 v d p) :
    ∃ (kd fld oth u : Int) (a : Option Addr) (cap : Nat) (zs : List Int) (y : DataW H), v = .agg #[.int .i64 kd, .slice a zs.length cap, .int .i64 fld, .int .i64 oth, .int .u64 u] ∧
      d = .agg [.lit (.int .i64 kd), y, .lit (.int .i64 fld), .lit (.int .i64 oth), .lit (.int .u64 u)] ∧ (Lit.int .u64 u).wf = true ∧
      Byt zs ∧ Row W a zs ∧ (a = none → cap = 0) ∧ zs.length ≤ maxLen ∧ ((y = .nil ∧ zs.length = 0) ∨ ∃ sp, y = .slice (lits .u8 zs) sp) := by
  obtain ⟨cs, rfl, hsz⟩ := okWide_struct Try.underlying28 hv
  obtain ⟨c0, c1, c2, c3, c4, rfl⟩ := array5 (hsz.trans cells68)
  obtain ⟨fuel, hf⟩ := h
  obtain ⟨xs, n, _, hx, hl, hlen, hg⟩ := DataW.trod_struct Try.underlying28 hf
  match xs, hlen with
  | [y0, y1, y2, y3, y4], _ =>
    have h0 := hg 0 _ rfl
    have h1 := hg 1 _ rfl
    have h2 := hg 2 _ rfl
    have h3 := hg 3 _ rfl
    have h4 := hg 4 _ rfl
    simp only [Value.cells] at h0 h1 h2 h3 h4
    replace h0 : DataW.trod enc Try.prog W 0 (fun _ => true) true n 3 [c0] = some y0 := by simpa [cells3] using h0
    replace h1 : DataW.trod enc Try.prog W 0 (fun _ => true) true n 24 [c1] = some y1 := by simpa [cells29] using h1
    replace h2 : DataW.trod enc Try.prog W 0 (fun _ => true) true n 3 [c2] = some y2 := by simpa [cells3] using h2
    replace h3 : DataW.trod enc Try.prog W 0 (fun _ => true) true n 3 [c3] = some y3 := by simpa [cells3] using h3
    replace h4 : DataW.trod enc Try.prog W 0 (fun _ => true) true n 23 [c4] = some y4 := by simpa [cells28] using h4
    obtain ⟨kd, e0, rfl, w0⟩ := DataW.trod_int Try.underlying3 h0
    obtain ⟨fld, e2, rfl, w2⟩ := DataW.trod_int Try.underlying3 h2
    obtain ⟨oth, e3, rfl, w3⟩ := DataW.trod_int Try.underlying3 h3
    obtain ⟨u, e4, rfl, w4⟩ := DataW.trod_int Try.underlying23 h4
    obtain ⟨a, cap, zs, rfl, bz, rz, nz, mz, dz⟩ := open_bytes1 h1
    simp at e0 e2 e3 e4
    subst e0 e2 e3 e4
    simp only [Prod.mk.injEq] at hx
    exact ⟨kd, fld, oth, u, a, cap, zs, y1.1, rfl, by rw [hx.1]; simp, w4, bz, rz, nz, mz, dz⟩
theorem field_sized {H : Type} {y : DataW H} {zs : List Int} {kd fld oth u : Int} (hd : (y = .nil ∧ zs.length = 0) ∨ ∃ sp, y = .slice (lits .u8 zs) sp)
    (hk : ∀ n ∈ DataW.weights Try.prog 28 (.agg [.lit (.int .i64 kd), y, .lit (.int .i64 fld), .lit (.int .i64 oth), .lit (.int .u64 u)]), n ≤ reachBytes) : zs.length ≤ 140737488351232 := by
  rcases hd with ⟨_, h⟩ | ⟨sp, rfl⟩
  · omega
  · have := hk (((lits (H := H) .u8 zs).length + sp.length) * Try.prog.bytesOf 5) (by
      rw [DataW.weights, Try.underlying28]
      exact DataW.weights_mem_each (j := 1) (t := 24) rfl rfl _ (by rw [DataW.weights, Try.underlying24]; simp))
    rw [bytes5] at this
    simp only [lits, List.length_map, reachBytes] at this
    omega
end LW
end Go.Proofs.Ytomdplcmbcjkfaa
