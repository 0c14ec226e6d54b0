/-
  How a Block among a law's arguments is opened.
-/
import Derived.Test.YtkilackhomhpgabDoorArgs
import Derived.Test.YtkilackhomhpgabDoorBlockLaws
namespace Go.Proofs.YtkilackhomhpgabDoor
open Go.ChangeShapes Go.WideShapes Go.ChangeAt Go.RowKit
set_option linter.unusedVariables false
set_option linter.unusedSimpArgs false
namespace MX
theorem c28 : Tryd.prog.cellsOf 28 = 28 := by kernel_rfl
theorem c26 : Tryd.prog.cellsOf 26 = 2 := by kernel_rfl
theorem c4 : Tryd.prog.cellsOf 4 = 1 := by kernel_rfl
theorem word_at {H : Type} {enc : TypeId × Value → H} {W : World} {sp : Nat → Bool} {held : Bool} {fuel i : Nat} {cs : List Value} {x : DataW H × List MemPlace}
    (h : DataW.trod enc Tryd.prog W 0 sp held fuel 22 ((cs.drop i).take 1) = some x) : ∃ z, cs[i]? = some (.int .u64 z) ∧ MX.W z := by
  obtain ⟨z, e1, _, wz⟩ := DataW.trod_int Tryd.underlying22 h
  refine ⟨z, ?_, (bounds_u64 wz).1, by have := (bounds_u64 wz).2; omega⟩
  have := congrArg (·[0]?) e1
  simpa [List.getElem?_take, List.getElem?_drop] using this
theorem bool_at {H : Type} {enc : TypeId × Value → H} {W : World} {sp : Nat → Bool} {held : Bool} {fuel i : Nat} {cs : List Value} {x : DataW H × List MemPlace}
    (h : DataW.trod enc Tryd.prog W 0 sp held fuel 4 ((cs.drop i).take 1) = some x) : ∃ z, cs[i]? = some (.bool z) := by
  obtain ⟨z, e1, _⟩ := DataW.trod_bool Tryd.underlying4 h
  refine ⟨z, ?_⟩
  have := congrArg (·[0]?) e1
  simpa [List.getElem?_take, List.getElem?_drop] using this
set_option maxRecDepth 100000 in
theorem open_block {H : Type} {enc : TypeId × Value → H} {W : World} {r : Reach} {b0 : Nat} {v : Value} {d : DataW H} {p : List MemPlace}
    (hv : Value.okWide Tryd.prog W r b0 28 v) (h : DataW.Trod enc Tryd.prog W 0 (fun _ => true) true 28 v d p) :
    ∃ (hs ms : List Int) (lo hi : Int) (la no : Bool), v = .agg (blockC hs ms lo hi la no) ∧ hs.length = 8 ∧ ms.length = 16 ∧ Ws hs ∧ Ws ms ∧ MX.W lo ∧ MX.W hi := by
  obtain ⟨cs, rfl, hsz⟩ := okWide_struct Tryd.underlying28 hv
  rw [c28] at hsz
  obtain ⟨fuel, hf⟩ := h
  obtain ⟨xs, n, _, hx, hl, hlen, hg⟩ := DataW.trod_struct Tryd.underlying28 hf
  match xs, hlen with
  | [y0, y1, y2, y3, y4], _ =>
    have h0 := hg 0 _ rfl
    have h1 := hg 1 _ rfl
    have h2 := hg 2 _ rfl
    have h3 := hg 3 _ rfl
    have h4 := hg 4 _ rfl
    simp only [Value.cells, c23, c24, c26, c4] at h0 h1 h2 h3 h4
    obtain ⟨hs, e0, hhl, hhw⟩ := words_of Tryd.underlying23 c23 h0
    obtain ⟨ms, e1, hml, hmw⟩ := words_of Tryd.underlying24 c24 h1
    obtain ⟨xs2, n2, _, hx2, hl2, hlen2, hg2⟩ := DataW.trod_struct Tryd.underlying26 h2
    obtain ⟨la, e4⟩ := bool_at h3
    obtain ⟨no, e5⟩ := bool_at h4
    match xs2, hlen2 with
    | [z0, z1], _ =>
      have k0 := hg2 0 _ rfl
      have k1 := hg2 1 _ rfl
      have k0' : DataW.trod enc Tryd.prog W 0 (fun _ => true) true n2 22 ((((cs.toList.drop 24).take 2).drop 0).take 1) = some z0 := k0
      have k1' : DataW.trod enc Tryd.prog W 0 (fun _ => true) true n2 22 ((((cs.toList.drop 24).take 2).drop 1).take 1) = some z1 := k1
      obtain ⟨lo, e2, wl⟩ := word_at k0'
      obtain ⟨hi, e3, wh⟩ := word_at k1'
      refine ⟨hs, ms, lo, hi, la, no, congrArg Value.agg ?_, hhl, hml, hhw, hmw, wl, wh⟩
      apply Array.ext'
      simp only [blockC, List.toList_toArray]
      have hl3 : cs.toList.length = 28 := by rw [Array.length_toList]; exact hsz
      have e0' : cs.toList.take 8 = hs.map (Value.int .u64) := e0
      have e1' : (cs.toList.drop 8).take 16 = ms.map (Value.int .u64) := e1
      have e2' : cs.toList[24]? = some (.int .u64 lo) := by simpa [List.getElem?_take, List.getElem?_drop] using e2
      have e3' : cs.toList[25]? = some (.int .u64 hi) := by simpa [List.getElem?_take, List.getElem?_drop] using e3
      have e4' : cs.toList[26]? = some (.bool la) := e4
      have e5' : cs.toList[27]? = some (.bool no) := e5
      generalize cs.toList = L at *
      rw [← List.take_append_drop 8 L, e0', ← List.take_append_drop 16 (L.drop 8), e1']
      congr 2
      apply List.ext_getElem?
      intro i
      rw [List.getElem?_drop, List.getElem?_drop]
      have hi : i = 0 ∨ i = 1 ∨ i = 2 ∨ i = 3 ∨ 4 ≤ i := by omega
      rcases hi with rfl | rfl | rfl | rfl | hi
      · exact e2'
      · exact e3'
      · exact e4'
      · exact e5'
      · rw [List.getElem?_eq_none (by omega), List.getElem?_eq_none (by simpa using hi)]
end MX
end Go.Proofs.YtkilackhomhpgabDoor
