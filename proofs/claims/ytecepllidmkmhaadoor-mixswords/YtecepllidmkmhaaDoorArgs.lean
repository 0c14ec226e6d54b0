/-
  How arrays of words, and a Step, among a law's arguments are opened.
-/
import Derived.Test.YtecepllidmkmhaaDoorLaid
import Derived.Test.YtecepllidmkmhaaDoorStructs
namespace Go.Proofs.YtecepllidmkmhaaDoor
open Go.ChangeShapes Go.WideShapes Go.ChangeAt Go.RowKit
set_option linter.unusedVariables false
set_option linter.unusedSimpArgs false
namespace MX
theorem okWide_array {P : Program} {w : World} {r : Reach} {base n : Nat} {t e : TypeId} {v : Value} (ht : P.underlying t = some (.array n e)) (h : Value.okWide P w r base t v) : ∃ cs, v = .agg cs ∧ cs.size = P.cellsOf t := by
  simp only [Value.okWide, ht] at h
  obtain ⟨cs, h1, h2, _⟩ := h
  exact ⟨cs, h1, h2⟩
/-- The cells of a row of words that can be read are words. -/
theorem words_of {H : Type} {enc : TypeId × Value → H} {W : World} {sp : Nat → Bool} {held : Bool} {fuel n : Nat} {t : TypeId} {cs : List Value} {x : DataW H × List MemPlace}
    (ht : Tryd.prog.underlying t = some (.array n 23)) (hc : Tryd.prog.cellsOf t = n) (h : DataW.trod enc Tryd.prog W 0 sp held fuel t cs = some x) : ∃ zs : List Int, cs = zs.map (Value.int .u32) ∧ zs.length = n ∧ Ws zs := by
  obtain ⟨xs, m, _, hx, hlen, hxs, hel⟩ := DataW.trod_array ht h
  rw [cW] at hel
  rw [hc] at hlen
  have hcell : ∀ i, i < n → ∃ z, cs[i]? = some (.int .u32 z) ∧ MX.W z := fun i hi => by
    have h1 := hel i hi
    have hi' : i < xs.length := by omega
    rw [List.getElem?_eq_getElem hi'] at h1
    obtain ⟨z, e1, _, wz⟩ := DataW.trod_int Tryd.underlying23 h1
    refine ⟨z, ?_, (bounds_u32 wz).1, by have := (bounds_u32 wz).2; omega⟩
    have := congrArg (·[0]?) e1
    simpa [List.getElem?_take, List.getElem?_drop] using this
  refine ⟨cs.map fun v => match v with | .int _ z => z | _ => 0, ?_, by rw [List.length_map, hlen], ?_⟩
  · rw [List.map_map]
    apply List.ext_getElem?
    intro j
    rcases Nat.lt_or_ge j n with hj | hj
    · obtain ⟨z, hz, _⟩ := hcell j hj
      rw [List.getElem?_map, hz]
      rfl
    · rw [List.getElem?_eq_none (by omega), List.getElem?_eq_none (by rw [List.length_map]; omega)]
  · intro y hy
    obtain ⟨v, hv, rfl⟩ := List.mem_map.1 hy
    obtain ⟨j, hj, rfl⟩ := List.mem_iff_getElem.1 hv
    obtain ⟨z, hz, wz⟩ := hcell j (by omega)
    rw [List.getElem?_eq_getElem hj] at hz
    rw [Option.some.inj hz]
    exact wz
theorem open_words16 {H : Type} {enc : TypeId × Value → H} {W : World} {r : Reach} {b0 : Nat} {v : Value} {d : DataW H} {p : List MemPlace}
    (hv : Value.okWide Tryd.prog W r b0 26 v) (h : DataW.Trod enc Tryd.prog W 0 (fun _ => true) true 26 v d p) : ∃ zs : List Int, v = .agg (K .u32 zs) ∧ zs.length = 16 ∧ Ws zs := by
  obtain ⟨cs, rfl, hsz⟩ := okWide_array Tryd.underlying26 hv
  obtain ⟨fuel, hf⟩ := h
  obtain ⟨zs, e, hl, hw⟩ := words_of Tryd.underlying26 c16 hf
  refine ⟨zs, congrArg Value.agg ?_, hl, hw⟩
  apply Array.ext'
  rw [K_toList]
  exact e
theorem open_words8 {H : Type} {enc : TypeId × Value → H} {W : World} {r : Reach} {b0 : Nat} {v : Value} {d : DataW H} {p : List MemPlace}
    (hv : Value.okWide Tryd.prog W r b0 24 v) (h : DataW.Trod enc Tryd.prog W 0 (fun _ => true) true 24 v d p) : ∃ zs : List Int, v = .agg (K .u32 zs) ∧ zs.length = 8 ∧ Ws zs := by
  obtain ⟨cs, rfl, hsz⟩ := okWide_array Tryd.underlying24 hv
  obtain ⟨fuel, hf⟩ := h
  obtain ⟨zs, e, hl, hw⟩ := words_of Tryd.underlying24 c8 hf
  refine ⟨zs, congrArg Value.agg ?_, hl, hw⟩
  apply Array.ext'
  rw [K_toList]
  exact e
theorem c3 : Tryd.prog.cellsOf 3 = 1 := by kernel_rfl
theorem c4 : Tryd.prog.cellsOf 4 = 1 := by kernel_rfl
theorem word_at {H : Type} {enc : TypeId × Value → H} {W : World} {sp : Nat → Bool} {held : Bool} {fuel i : Nat} {cs : List Value} {x : DataW H × List MemPlace}
    (h : DataW.trod enc Tryd.prog W 0 sp held fuel 23 ((cs.drop i).take 1) = some x) : ∃ z, cs[i]? = some (.int .u32 z) ∧ MX.W z := by
  obtain ⟨z, e1, _, wz⟩ := DataW.trod_int Tryd.underlying23 h
  refine ⟨z, ?_, (bounds_u32 wz).1, by have := (bounds_u32 wz).2; omega⟩
  have := congrArg (·[0]?) e1
  simpa [List.getElem?_take, List.getElem?_drop] using this
theorem int_at {H : Type} {enc : TypeId × Value → H} {W : World} {sp : Nat → Bool} {held : Bool} {fuel i : Nat} {cs : List Value} {x : DataW H × List MemPlace}
    (h : DataW.trod enc Tryd.prog W 0 sp held fuel 3 ((cs.drop i).take 1) = some x) : ∃ z, cs[i]? = some (.int .i64 z) := by
  obtain ⟨z, e1, _, wz⟩ := DataW.trod_int Tryd.underlying3 h
  refine ⟨z, ?_⟩
  have := congrArg (·[0]?) e1
  simpa [List.getElem?_take, List.getElem?_drop] using this
theorem bool_at {H : Type} {enc : TypeId × Value → H} {W : World} {sp : Nat → Bool} {held : Bool} {fuel i : Nat} {cs : List Value} {x : DataW H × List MemPlace}
    (h : DataW.trod enc Tryd.prog W 0 sp held fuel 4 ((cs.drop i).take 1) = some x) : ∃ z, cs[i]? = some (.bool z) := by
  obtain ⟨z, e1, _⟩ := DataW.trod_bool Tryd.underlying4 h
  refine ⟨z, ?_⟩
  have := congrArg (·[0]?) e1
  simpa [List.getElem?_take, List.getElem?_drop] using this
/-- A row, a row behind it, and single cells. -/
theorem rows_tail {L A B : List Value} {tl : List Value} (na nb nt : Nat) (ha : A.length = na) (hb : B.length = nb) (ht : tl.length = nt) (hL : L.length = na + nb + nt) (e0 : L.take na = A) (e1 : (L.drop na).take nb = B) (e2 : ∀ i, i < nt → L[na + nb + i]? = tl[i]?) : L = A ++ (B ++ tl) := by
  rw [← List.take_append_drop na L, e0, ← List.take_append_drop nb (L.drop na), e1]
  congr 2
  apply List.ext_getElem?
  intro i
  rw [List.getElem?_drop, List.getElem?_drop]
  rcases Nat.lt_or_ge i nt with hi | hi
  · rw [← Nat.add_assoc]; exact e2 i hi
  · rw [List.getElem?_eq_none (by omega), List.getElem?_eq_none (by omega)]
theorem cPut : Tryd.prog.cellsOf 42 = 39 := by kernel_rfl
set_option maxRecDepth 100000 in
theorem open_put {H : Type} {enc : TypeId × Value → H} {W : World} {r : Reach} {b0 : Nat} {v : Value} {d : DataW H} {p : List MemPlace}
    (hv : Value.okWide Tryd.prog W r b0 42 v) (h : DataW.Trod enc Tryd.prog W 0 (fun _ => true) true 42 v d p) :
    ∃ (vs ms : List Int) (a b c d x y n : Int), v = .agg (putC vs ms a b c d x y n) ∧ vs.length = 16 ∧ ms.length = 16 ∧ Ws vs ∧ Ws ms ∧ MX.W x ∧ MX.W y := by
  obtain ⟨cs, rfl, hsz⟩ := okWide_struct Tryd.underlying42 hv
  rw [cPut] at hsz
  obtain ⟨fuel, hf⟩ := h
  obtain ⟨xs, n, _, hx, hl, hlen, hg⟩ := DataW.trod_struct Tryd.underlying42 hf
  match xs, hlen with
  | [y0, y1, y2, y3, y4, y5, y6, y7, y8], _ =>
    have h0 := hg 0 _ rfl
    have h1 := hg 1 _ rfl
    have h2 := hg 2 _ rfl
    have h3 := hg 3 _ rfl
    have h4 := hg 4 _ rfl
    have h5 := hg 5 _ rfl
    have h6 := hg 6 _ rfl
    have h7 := hg 7 _ rfl
    have h8 := hg 8 _ rfl
    simp only [Value.cells, c16, c3, cW] at h0 h1 h2 h3 h4 h5 h6 h7 h8
    obtain ⟨vs, e0, hvl, hvw⟩ := words_of Tryd.underlying26 c16 h0
    obtain ⟨ms, e1, hml, hmw⟩ := words_of Tryd.underlying26 c16 h1
    obtain ⟨a, e2⟩ := int_at h2
    obtain ⟨b, e3⟩ := int_at h3
    obtain ⟨c, e4⟩ := int_at h4
    obtain ⟨d, e5⟩ := int_at h5
    obtain ⟨x, e6, wx⟩ := word_at h6
    obtain ⟨y, e7, wy⟩ := word_at h7
    obtain ⟨n, e8⟩ := int_at h8
    refine ⟨vs, ms, a, b, c, d, x, y, n, congrArg Value.agg ?_, hvl, hml, hvw, hmw, wx, wy⟩
    apply Array.ext'
    simp only [putC, List.toList_toArray]
    refine rows_tail 16 16 7 (by rw [List.length_map, hvl]) (by rw [List.length_map, hml]) rfl (by rw [Array.length_toList]; exact hsz) e0 e1 (fun i hi => ?_)
    have hi : i = 0 ∨ i = 1 ∨ i = 2 ∨ i = 3 ∨ i = 4 ∨ i = 5 ∨ i = 6 := by omega
    rcases hi with rfl | rfl | rfl | rfl | rfl | rfl | rfl
    · exact e2
    · exact e3
    · exact e4
    · exact e5
    · exact e6
    · exact e7
    · exact e8
theorem cRun : Tryd.prog.cellsOf 48 = 27 := by kernel_rfl
theorem c64 : Tryd.prog.cellsOf 46 = 1 := by kernel_rfl
theorem count_at {H : Type} {enc : TypeId × Value → H} {W : World} {sp : Nat → Bool} {held : Bool} {fuel i : Nat} {cs : List Value} {x : DataW H × List MemPlace}
    (h : DataW.trod enc Tryd.prog W 0 sp held fuel 46 ((cs.drop i).take 1) = some x) : ∃ z, cs[i]? = some (.int .u64 z) ∧ 0 ≤ z ∧ z < 18446744073709551616 := by
  obtain ⟨z, e1, _, wz⟩ := DataW.trod_int Tryd.underlying46 h
  refine ⟨z, ?_, (bounds_u64 wz).1, by have := (bounds_u64 wz).2; omega⟩
  have := congrArg (·[0]?) e1
  simpa [List.getElem?_take, List.getElem?_drop] using this
set_option maxRecDepth 100000 in
theorem open_run {H : Type} {enc : TypeId × Value → H} {W : World} {r : Reach} {b0 : Nat} {v : Value} {d : DataW H} {p : List MemPlace}
    (hv : Value.okWide Tryd.prog W r b0 48 v) (h : DataW.Trod enc Tryd.prog W 0 (fun _ => true) true 48 v d p) :
    ∃ (hs ms : List Int) (n : Int) (la no : Bool), v = .agg (runC hs ms n la no) ∧ hs.length = 8 ∧ ms.length = 16 ∧ Ws hs ∧ Ws ms ∧ 0 ≤ n ∧ n < 18446744073709551616 := by
  obtain ⟨cs, rfl, hsz⟩ := okWide_struct Tryd.underlying48 hv
  rw [cRun] at hsz
  obtain ⟨fuel, hf⟩ := h
  obtain ⟨xs, n, _, hx, hl, hlen, hg⟩ := DataW.trod_struct Tryd.underlying48 hf
  match xs, hlen with
  | [y0, y1, y2, y3, y4], _ =>
    have h0 := hg 0 _ rfl
    have h1 := hg 1 _ rfl
    have h2 := hg 2 _ rfl
    have h3 := hg 3 _ rfl
    have h4 := hg 4 _ rfl
    simp only [Value.cells, c16, c8, c64, c4] at h0 h1 h2 h3 h4
    obtain ⟨hs, e0, hvl, hvw⟩ := words_of Tryd.underlying24 c8 h0
    obtain ⟨ms, e1, hml, hmw⟩ := words_of Tryd.underlying26 c16 h1
    obtain ⟨n, e2, wn, wn'⟩ := count_at h2
    obtain ⟨la, e3⟩ := bool_at h3
    obtain ⟨no, e4⟩ := bool_at h4
    refine ⟨hs, ms, n, la, no, congrArg Value.agg ?_, hvl, hml, hvw, hmw, wn, wn'⟩
    apply Array.ext'
    simp only [runC, List.toList_toArray]
    refine rows_tail 8 16 3 (by rw [List.length_map, hvl]) (by rw [List.length_map, hml]) rfl (by rw [Array.length_toList]; exact hsz) e0 e1 (fun i hi => ?_)
    have hi : i = 0 ∨ i = 1 ∨ i = 2 := by omega
    rcases hi with rfl | rfl | rfl
    · exact e2
    · exact e3
    · exact e4
end MX
end Go.Proofs.YtecepllidmkmhaaDoor
